/- Layer 3 (expr): what is written is read again: unlike expressions are written unlike, whatever stands behind them. -/
import Derived.Test.YtpdpofoicdijlaaGreatDoorExprS
namespace Go.Proofs.YtpdpofoicdijlaaGreatDoor.Expr

def isDig (c : UInt8) : Bool := decide (48 ≤ c.toNat) && decide (c.toNat ≤ 57)
/-- What stands behind a part is no digit and no ':'. -/
def stops (s : List UInt8) : Bool := match s with
  | [] => true
  | c :: _ => !isDig c && c != 58
/-- The number that digits spell. -/
def spell (l : List UInt8) : Nat := l.foldl (fun n c => 10 * n + (c.toNat - 48)) 0

theorem dec_spell (n : Nat) : (∀ c ∈ dec n, isDig c = true) ∧ spell (dec n) = n ∧ dec n ≠ [] := by
  induction n using Nat.strongRecOn with
  | ind n ih =>
    have one : ∀ d, d < 10 → isDig (UInt8.ofNat (48 + d)) = true ∧ (UInt8.ofNat (48 + d)).toNat - 48 = d := fun d hd => by
      have e : (UInt8.ofNat (48 + d)).toNat = 48 + d := by rw [UInt8.toNat_ofNat']; omega
      refine ⟨?_, by rw [e]; omega⟩
      unfold isDig; rw [e]; simp; omega
    unfold dec
    rw [Lib.decDigits.eq_def]
    by_cases h : n < 10
    · rw [dif_pos h]
      refine ⟨fun c hc => ?_, ?_, by simp⟩
      · rw [List.mem_singleton] at hc; rw [hc]; exact (one n h).1
      · show 10 * 0 + ((UInt8.ofNat (48 + n)).toNat - 48) = n
        rw [(one n h).2]; omega
    · rw [dif_neg h]
      obtain ⟨i1, i2, i3⟩ := ih (n / 10) (by omega)
      unfold dec at i1 i2 i3
      refine ⟨fun c hc => ?_, ?_, by simp⟩
      · rcases List.mem_append.1 hc with hc | hc
        · exact i1 c hc
        · rw [List.mem_singleton] at hc; rw [hc]; exact (one (n % 10) (by omega)).1
      · unfold spell at i2 ⊢
        rw [List.foldl_append, i2]
        show 10 * (n / 10) + ((UInt8.ofNat (48 + n % 10)).toNat - 48) = n
        rw [(one (n % 10) (by omega)).2]; omega

/-- A reader of numbers: the digits ahead, and what stands behind them. -/
def digits (l : List UInt8) : List UInt8 := l.takeWhile isDig
theorem digits_dec (n : Nat) {s : List UInt8} (h : ∀ c r, s = c :: r → isDig c = false) : digits (dec n ++ s) = dec n ∧ (dec n ++ s).drop (dec n).length = s := by
  refine ⟨?_, by simp⟩
  unfold digits
  have h1 := (dec_spell n).1
  generalize dec n = d at h1
  induction d with
  | nil =>
    cases s with
    | nil => rfl
    | cons c r => simp [h c r rfl]
  | cons c d ih =>
    rw [List.cons_append, List.takeWhile_cons, if_pos (h1 c (List.mem_cons_self)), ih fun c hc => h1 c (List.mem_cons_of_mem _ hc)]
theorem dec_cancel {m n : Nat} {s t : List UInt8} (hs : stops s = true) (ht : stops t = true) (h : dec m ++ s = dec n ++ t) : m = n ∧ s = t := by
  have e : ∀ {s : List UInt8}, stops s = true → ∀ c r, s = c :: r → isDig c = false := by
    intro s hs c r e; subst e; simp only [stops, Bool.and_eq_true] at hs; simpa using hs.1
  have d1 := digits_dec m (e hs)
  have d2 := digits_dec n (e ht)
  rw [h] at d1
  have hd : dec m = dec n := d1.1.symm.trans d2.1
  refine ⟨by rw [← (dec_spell m).2.1, hd, (dec_spell n).2.1], ?_⟩
  have h2 := d1.2
  rw [hd, d2.2] at h2
  exact h2.symm

/-! ### A reader of expressions -/
/-- A sign of two sides, with its blanks. -/
def opTxt (op : Nat) : List UInt8 := 32 :: (sign op ++ [32])
/-- Which operation of two sides stands ahead, and what stands behind it. -/
def readOp (s : List UInt8) : Option (Nat × List UInt8) :=
  (List.range 13).findSome? fun op => if 1 ≤ op ∧ (opTxt op).isPrefixOf s then some (op, s.drop (opTxt op).length) else none

mutual
/-- What stands ahead of a text at level k: 1 to 3: of two sides, this strong or stronger; 4: a part. -/
def read : Nat → Nat → List UInt8 → Option (Ex × List UInt8)
  | 0, _, _ => none
  | f + 1, k, s =>
    if k < 4 then (read f (k + 1) s).bind fun p => more f k p.1 p.2
    else match s with
      | [] => none
      | c :: r =>
        if c = 40 then (read f 1 r).bind fun p => match p.2 with
          | 41 :: t => some (p.1, t)
          | _ => none
        else if c = 33 then (read f 4 r).map fun p => (.one 13 p.1, p.2)
        else if c = 45 then (read f 4 r).map fun p => (.one 14 p.1, p.2)
        else if isDig c then
          match s.drop (digits s).length with
          | 58 :: 114 :: t => some (.of (spell (digits s)) (spell (digits t)), t.drop (digits t).length)
          | t => some (.num (spell (digits s)), t)
        else if c = 114 then some (.reg (spell (digits r)), r.drop (digits r).length)
        else some (.loc c.toNat, r)
/-- Behind a part: what goes on at level k. -/
def more : Nat → Nat → Ex → List UInt8 → Option (Ex × List UInt8)
  | 0, _, _, _ => none
  | f + 1, k, a, s => match readOp s with
    | none => some (a, s)
    | some (op, t) => if strongOp op = k then (read f (k + 1) t).bind fun p => more f k (.two op a p.1) p.2 else some (a, s)
end

theorem readOp_none {c : UInt8} {r : List UInt8} (h : c ≠ 32) : readOp (c :: r) = none := by
  unfold readOp
  rw [List.findSome?_eq_none_iff]
  intro op _
  have : (opTxt op).isPrefixOf (c :: r) = false := by
    unfold opTxt
    simp [List.isPrefixOf, Ne.symm h]
  simp [this]
theorem readOp_nil : readOp [] = none := by decide
theorem readOp_op {op : Nat} (h1 : 1 ≤ op) (h2 : op ≤ 12) (t : List UInt8) : readOp (opTxt op ++ t) = some (op, t) := by
  have : op = 1 ∨ op = 2 ∨ op = 3 ∨ op = 4 ∨ op = 5 ∨ op = 6 ∨ op = 7 ∨ op = 8 ∨ op = 9 ∨ op = 10 ∨ op = 11 ∨ op = 12 := by omega
  rcases this with rfl | rfl | rfl | rfl | rfl | rfl | rfl | rfl | rfl | rfl | rfl | rfl <;> rfl

/-- From some fuel on. -/
def Ev (p : Nat → Prop) : Prop := ∃ n, ∀ f, n ≤ f → p f
theorem Ev.and {p q r : Nat → Prop} (hp : Ev p) (hq : Ev q) (h : ∀ f, p f → q f → r (f + 1)) : Ev r := by
  obtain ⟨n, hn⟩ := hp
  obtain ⟨m, hm⟩ := hq
  refine ⟨n + m + 1, fun f hf => ?_⟩
  obtain ⟨g, rfl⟩ : ∃ g, f = g + 1 := ⟨f - 1, by omega⟩
  exact h g (hn g (by omega)) (hm g (by omega))
theorem Ev.one {p r : Nat → Prop} (hp : Ev p) (h : ∀ f, p f → r (f + 1)) : Ev r := hp.and hp fun f a _ => h f a
theorem Ev.all {r : Nat → Prop} (h : ∀ f, r (f + 1)) : Ev r := ⟨1, fun f hf => by
  obtain ⟨g, rfl⟩ : ∃ g, f = g + 1 := ⟨f - 1, by omega⟩
  exact h g⟩

/-- What may stand behind an expression at level k. -/
def Fol (k : Nat) (s : List UInt8) : Prop := stops s = true ∧ ∀ op t, readOp s = some (op, t) → strongOp op ≤ k
theorem Fol.up {k j : Nat} {s : List UInt8} (h : Fol k s) (hk : k ≤ j) : Fol j s := ⟨h.1, fun op t ho => Nat.le_trans (h.2 op t ho) hk⟩
theorem fol_nil (k : Nat) : Fol k [] := ⟨rfl, fun op t h => by rw [readOp_nil] at h; cases h⟩
theorem fol_cons (k : Nat) {c : UInt8} {r : List UInt8} (h1 : isDig c = false) (h2 : c ≠ 58) (h3 : c ≠ 32) : Fol k (c :: r) :=
  ⟨by simp [stops, h1, h2], fun op t h => by rw [readOp_none h3] at h; cases h⟩
theorem strong_pos {op : Nat} (h1 : 1 ≤ op) (h2 : op ≤ 12) : 1 ≤ strongOp op ∧ strongOp op ≤ 3 := by
  unfold strongOp
  by_cases a : 1 ≤ op ∧ op ≤ 4
  · rw [if_pos a]; omega
  · rw [if_neg a]
    by_cases b : 5 ≤ op ∧ op ≤ 8
    · rw [if_pos b]; omega
    · rw [if_neg b, if_pos (by omega)]; omega
/-- Nothing goes on at level k. -/
theorem more_stop {k j : Nat} {s : List UInt8} (e : Ex) (h : Fol k s) (hk : k < j) : Ev fun f => more f j e s = some (e, s) := by
  refine Ev.all fun f => ?_
  unfold more
  cases ho : readOp s with
  | none => rfl
  | some p =>
    obtain ⟨op, t⟩ := p
    have := h.2 op t ho
    simp only
    rw [if_neg (by omega)]
/-- A part at level k, as it is written. -/
def Ex.at (e : Ex) (k : Nat) : List UInt8 := atLeast k e.strong e.text
def P4 (e : Ex) : Prop := ∀ s, stops s = true → Ev fun f => read f 4 (e.at 4 ++ s) = some (e, s)
def Pk (k : Nat) (e : Ex) : Prop := ∀ s R, Fol k s → (Ev fun f => more f k e s = R) → Ev fun f => read f k (e.at k ++ s) = R
theorem at_weak {e : Ex} {k : Nat} (h : e.strong < k) : e.at k = 40 :: (e.text ++ [41]) := by unfold Ex.at atLeast; rw [if_pos h]
theorem at_own {e : Ex} {k : Nat} (h : k ≤ e.strong) : e.at k = e.text := by unfold Ex.at atLeast; rw [if_neg (by omega)]
theorem read_low {k f : Nat} (hk : k < 4) (s : List UInt8) : read (f + 1) k s = (read f (k + 1) s).bind fun p => more f k p.1 p.2 := by
  rw [read.eq_def]; simp only; rw [if_pos hk]
theorem read_part (f : Nat) (c : UInt8) (r : List UInt8) : read (f + 1) 4 (c :: r) =
    if c = 40 then (read f 1 r).bind fun p => match p.2 with
          | 41 :: t => some (p.1, t)
          | _ => none
        else if c = 33 then (read f 4 r).map fun p => (.one 13 p.1, p.2)
        else if c = 45 then (read f 4 r).map fun p => (.one 14 p.1, p.2)
        else if isDig c then
          match (c :: r).drop (digits (c :: r)).length with
          | 58 :: 114 :: t => some (.of (spell (digits (c :: r))) (spell (digits t)), t.drop (digits t).length)
          | t => some (.num (spell (digits (c :: r))), t)
        else if c = 114 then some (.reg (spell (digits r)), r.drop (digits r).length)
        else some (.loc c.toNat, r) := by
  rw [read.eq_def]; simp only; rw [if_neg (by omega)]
/-- From the level above, where the part is written alike. -/
theorem pk_of {k : Nat} (hk : k < 4) {e : Ex} (he : e.at k = e.at (k + 1)) (h : ∀ s, Fol k s → Ev fun f => read f (k + 1) (e.at (k + 1) ++ s) = some (e, s)) : Pk k e := by
  intro s R hs hm
  refine (h s hs).and hm fun f h1 h2 => ?_
  rw [read_low hk, he, h1]
  exact h2
theorem pk_up {k : Nat} (hk : k < 3) {e : Ex} (he : e.at k = e.at (k + 1)) (h : Pk (k + 1) e) : Pk k e :=
  pk_of (by omega) he fun s hs => h s _ (hs.up (Nat.le_succ k)) (more_stop e hs (Nat.lt_succ_self k))
theorem pk_4 {e : Ex} (he : e.at 3 = e.at 4) (h : P4 e) : Pk 3 e := pk_of (by omega) he fun s hs => h s hs.1
/-- The part above an operation's right side. -/
theorem right_of {k : Nat} (h1 : 1 ≤ k) (h3 : k ≤ 3) {e : Ex} (hp : ∀ j, 1 ≤ j → j ≤ 3 → Pk j e) (h4 : P4 e) {s : List UInt8} (hs : Fol k s) : Ev fun f => read f (k + 1) (e.at (k + 1) ++ s) = some (e, s) := by
  by_cases hk : k = 3
  · subst hk; exact h4 s hs.1
  · exact hp (k + 1) (by omega) (by omega) s _ (hs.up (Nat.le_succ k)) (more_stop e hs (Nat.lt_succ_self k))
theorem two_text (op : Nat) (a b : Ex) : (Ex.two op a b).text = a.at (strongOp op) ++ (opTxt op ++ b.at (strongOp op + 1)) := by
  simp [Ex.text, Ex.at, opTxt]
theorem hst_of {s : List UInt8} (hs : stops s = true) : ∀ c r, s = c :: r → isDig c = false := by
  intro c r e; subst e; simp only [stops, Bool.and_eq_true] at hs; simpa using hs.1
theorem dig_head {c : UInt8} (hc : isDig c = true) : c ≠ 40 ∧ c ≠ 33 ∧ c ≠ 45 := by
  refine ⟨?_, ?_, ?_⟩ <;> (rintro rfl; revert hc; decide)
theorem dec_cons (n : Nat) : ∃ c d, dec n = c :: d ∧ isDig c = true := by
  obtain ⟨d1, d2, d3⟩ := dec_spell n
  cases hd : dec n with
  | nil => exact absurd hd d3
  | cons c d => exact ⟨c, d, rfl, d1 c (by rw [hd]; exact List.mem_cons_self)⟩
theorem leaf_levels (e : Ex) (hs : 4 ≤ e.strong) (h4 : P4 e) : (∀ k, 1 ≤ k → k ≤ 3 → Pk k e) ∧ P4 e := by
  have w : ∀ j, j ≤ 4 → e.at j = e.text := fun j hj => at_own (by omega)
  have h3 : Pk 3 e := pk_4 (by rw [w 3 (by omega), w 4 (by omega)]) h4
  have h2 : Pk 2 e := pk_up (by omega) (by rw [w 2 (by omega), w 3 (by omega)]) h3
  have h1 : Pk 1 e := pk_up (by omega) (by rw [w 1 (by omega), w 2 (by omega)]) h2
  exact ⟨fun k k1 k3 => by
    have : k = 1 ∨ k = 2 ∨ k = 3 := by omega
    rcases this with rfl | rfl | rfl <;> assumption, h4⟩
theorem one_strong {op : Nat} (h : op = 13 ∨ op = 14) : strongOp op = 4 := by rcases h with rfl | rfl <;> rfl
theorem all_levels (e : Ex) (h : e.ok) : (∀ k, 1 ≤ k → k ≤ 3 → Pk k e) ∧ P4 e := by
  induction e with
  | num n =>
    refine leaf_levels _ (by show 4 ≤ 5; omega) fun s hs => Ev.all fun f => ?_
    rw [at_own (by show 4 ≤ 5; omega)]
    show read (f + 1) 4 (dec n ++ s) = _
    obtain ⟨e1, e2⟩ := digits_dec n (hst_of hs)
    have d2 := (dec_spell n).2.1
    obtain ⟨c, d, hd, hc⟩ := dec_cons n
    obtain ⟨g1, g2, g3⟩ := dig_head hc
    rw [hd, List.cons_append] at e1 e2
    rw [hd, List.cons_append, read_part, if_neg g1, if_neg g2, if_neg g3, if_pos hc, e1, e2, ← hd, d2]
    cases s with
    | nil => rfl
    | cons c' r' =>
      have : c' ≠ 58 := by simp only [stops, Bool.and_eq_true] at hs; simpa using hs.2
      split
      · rename_i e; injection e with e _; exact absurd e this
      · rfl
  | reg i =>
    refine leaf_levels _ (by show 4 ≤ 5; omega) fun s hs => Ev.all fun f => ?_
    rw [at_own (by show 4 ≤ 5; omega)]
    show read (f + 1) 4 (114 :: (dec i ++ s)) = _
    obtain ⟨e1, e2⟩ := digits_dec i (hst_of hs)
    rw [read_part, if_neg (by decide), if_neg (by decide), if_neg (by decide), if_neg (by decide), if_pos rfl, e1, e2, (dec_spell i).2.1]
  | of t i =>
    refine leaf_levels _ (by show 4 ≤ 5; omega) fun s hs => Ev.all fun f => ?_
    rw [at_own (by show 4 ≤ 5; omega)]
    have : (Ex.of t i).text ++ s = dec t ++ (58 :: 114 :: (dec i ++ s)) := by simp [Ex.text]
    rw [this]
    obtain ⟨e1, e2⟩ := digits_dec t (s := 58 :: 114 :: (dec i ++ s)) (fun c r e => by injection e with e _; rw [← e]; rfl)
    obtain ⟨e3, e4⟩ := digits_dec i (hst_of hs)
    have d2 := (dec_spell t).2.1
    obtain ⟨c, d, hd, hc⟩ := dec_cons t
    obtain ⟨g1, g2, g3⟩ := dig_head hc
    rw [hd, List.cons_append] at e1 e2
    rw [hd, List.cons_append, read_part, if_neg g1, if_neg g2, if_neg g3, if_pos hc, e1, e2, ← hd, d2]
    simp only
    rw [e3, e4, (dec_spell i).2.1]
  | loc x =>
    obtain ⟨h1, h2, h3⟩ := h
    refine leaf_levels _ (by show 4 ≤ 5; omega) fun s hs => Ev.all fun f => ?_
    rw [at_own (by show 4 ≤ 5; omega)]
    show read (f + 1) 4 (x.toUInt8 :: s) = _
    have hx : x.toUInt8.toNat = x := by simp; omega
    have ne : ∀ c : UInt8, c.toNat ≠ x → x.toUInt8 ≠ c := fun c hc e => hc (by rw [← e, hx])
    have nd : isDig x.toUInt8 = false := by unfold isDig; rw [hx]; simp; omega
    rw [read_part, if_neg (ne 40 (by show 40 ≠ x; omega)), if_neg (ne 33 (by show 33 ≠ x; omega)), if_neg (ne 45 (by show 45 ≠ x; omega)), if_neg (by rw [nd]; exact Bool.false_ne_true), if_neg (ne 114 (by show 114 ≠ x; omega)), hx]
  | one op a ih =>
    obtain ⟨ho, ha⟩ := h
    have hs4 := one_strong ho
    refine leaf_levels _ (by show 4 ≤ strongOp op; omega) fun s hs => (ih ha).2 s hs |>.one fun f h1 => ?_
    rw [at_own (by show 4 ≤ strongOp op; omega)]
    have e : (Ex.one op a).text ++ s = sign op ++ (a.at 4 ++ s) := by simp [Ex.text, Ex.at, hs4]
    rw [e]
    rcases ho with rfl | rfl
    · show read (f + 1) 4 (33 :: (a.at 4 ++ s)) = _
      rw [read_part, if_neg (by decide), if_pos rfl, h1]; rfl
    · show read (f + 1) 4 (45 :: (a.at 4 ++ s)) = _
      rw [read_part, if_neg (by decide), if_neg (by decide), if_pos rfl, h1]; rfl
  | two op a b iha ihb =>
    obtain ⟨o1, o2, ha, hb⟩ := h
    obtain ⟨s1, s3⟩ := strong_pos o1 o2
    have own : ∀ k, k ≤ strongOp op → (Ex.two op a b).at k = (Ex.two op a b).text := fun k hk => at_own hk
    have weak : ∀ k, strongOp op < k → (Ex.two op a b).at k = 40 :: ((Ex.two op a b).text ++ [41]) := fun k hk => at_weak hk
    have here : Pk (strongOp op) (.two op a b) := by
      intro s R hs hm
      have e : (Ex.two op a b).at (strongOp op) ++ s = a.at (strongOp op) ++ (opTxt op ++ (b.at (strongOp op + 1) ++ s)) := by
        rw [own _ (Nat.le_refl _), two_text]; simp
      rw [show (fun f => read f (strongOp op) ((Ex.two op a b).at (strongOp op) ++ s) = R) = fun f => read f (strongOp op) (a.at (strongOp op) ++ (opTxt op ++ (b.at (strongOp op + 1) ++ s))) = R by rw [e]]
      refine (iha ha).1 _ s1 s3 _ R ⟨rfl, fun op' t h' => ?_⟩ ?_
      · rw [readOp_op o1 o2] at h'; injection h' with h'; injection h' with h1 _; rw [← h1]; exact Nat.le_refl _
      · refine (right_of s1 s3 (ihb hb).1 (ihb hb).2 hs).and hm fun f h1 h2 => ?_
        rw [more.eq_def]; simp only
        rw [readOp_op o1 o2]
        simp only
        rw [if_pos trivial, h1]
        exact h2
    have low : ∀ k, 1 ≤ k → k ≤ strongOp op → Pk k (.two op a b) := by
      intro k k1 hk
      obtain ⟨d, hd⟩ : ∃ d, strongOp op = k + d := ⟨strongOp op - k, by omega⟩
      induction d generalizing k with
      | zero => obtain rfl : k = strongOp op := by omega
                exact here
      | succ d ih => exact pk_up (by omega) (by rw [own k hk, own (k + 1) (by omega)]) (ih (k + 1) (by omega) (by omega) (by omega))
    have h4 : P4 (.two op a b) := by
      intro s hs
      have h1 := low 1 (Nat.le_refl _) s1 (41 :: s) (some (.two op a b, 41 :: s)) (fol_cons 1 (by decide) (by decide) (by decide)) (more_stop (k := 0) _ (fol_cons 0 (by decide) (by decide) (by decide)) (by omega))
      refine h1.one fun f hf => ?_
      have e : (Ex.two op a b).at 4 ++ s = 40 :: ((Ex.two op a b).at 1 ++ 41 :: s) := by rw [weak 4 (by omega), own 1 s1]; simp
      rw [e, read_part, if_pos rfl, hf]; rfl
    refine ⟨fun k k1 k3 => ?_, h4⟩
    by_cases hk : k ≤ strongOp op
    · exact low k k1 hk
    · obtain ⟨d, hd⟩ : ∃ d, 3 = k + d := ⟨3 - k, by omega⟩
      induction d generalizing k with
      | zero => obtain rfl : k = 3 := by omega
                exact pk_4 (by rw [weak 3 (by omega), weak 4 (by omega)]) h4
      | succ d ih => exact pk_up (by omega) (by rw [weak k (by omega), weak (k + 1) (by omega)]) (ih (k + 1) (by omega) (by omega) (by omega) (by omega))

/-- UNLIKE EXPRESSIONS ARE WRITTEN UNLIKE, whatever stands behind them, if it is no digit, no ':', and no operation. -/
theorem text_cancel {a b : Ex} (ha : a.ok) (hb : b.ok) {s t : List UInt8} (hs : Fol 0 s) (ht : Fol 0 t) (h : a.text ++ s = b.text ++ t) : a = b ∧ s = t := by
  have own : ∀ e : Ex, e.ok → e.at 1 = e.text := fun e he => at_own (by
    cases e with
    | one op a => have := one_strong he.1; show 1 ≤ strongOp op; omega
    | two op a b => exact (strong_pos he.1 he.2.1).1
    | _ => show 1 ≤ 5; omega)
  obtain ⟨n, hn⟩ := (all_levels a ha).1 1 (by omega) (by omega) s (some (a, s)) (hs.up (by omega)) (more_stop a hs (by omega))
  obtain ⟨m, hm⟩ := (all_levels b hb).1 1 (by omega) (by omega) t (some (b, t)) (ht.up (by omega)) (more_stop b ht (by omega))
  have h1 := hn (n + m) (by omega)
  have h2 := hm (n + m) (by omega)
  rw [own a ha] at h1
  rw [own b hb] at h2
  rw [h, h2] at h1
  injection h1 with h1
  injection h1 with h1 h3
  exact ⟨h1.symm, h3.symm⟩
theorem text_inj {a b : Ex} (ha : a.ok) (hb : b.ok) (h : a.text = b.text) : a = b :=
  (text_cancel ha hb (fol_nil 0) (fol_nil 0) (by rw [h])).1
end Go.Proofs.YtpdpofoicdijlaaGreatDoor.Expr
