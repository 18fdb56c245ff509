/- Layer 2 (lex): pieces that are written one behind the other are told as themselves; each stands at its place (plain lists). -/
import Derived.Test.YtfmopeldhgfpoaaLexS
namespace Go.Proofs.Ytfmopeldhgfpoaa.Lex

def Emits (t : Tok) : Prop := ∃ l, one l = .piece t.kind t.text.length t.num ∧ l.take t.text.length = t.text

theorem blank_is {c : UInt8} (h : isB c = true) : c = 32 ∨ c = 9 ∨ c = 10 := by
  unfold isB at h
  simp only [Bool.or_eq_true, beq_iff_eq] at h
  rcases h with (h | h) | h
  · exact .inl h
  · exact .inr (.inl h)
  · exact .inr (.inr h)
theorem stop_at {q : UInt8 → Bool} {t r : List UInt8} {c : UInt8} (ht : t.all q = true) (hc : q c = false) : (t ++ c :: r).takeWhile q = t := by
  rw [List.takeWhile_append_of_pos (fun x hx => List.all_eq_true.1 ht x hx), List.takeWhile_cons, hc]
  simp
theorem taken {q : UInt8 → Bool} (l : List UInt8) : l.take (l.takeWhile q).length = l.takeWhile q :=
  (List.prefix_iff_eq_take.1 (List.takeWhile_prefix q)).symm

theorem one_cons (c : UInt8) (r : List UInt8) : one (c :: r) =
    if isB c then .skip 1
    else if c == 35 then .skip ((c :: r).takeWhile isR).length
    else if isD c then
      if num ((c :: r).takeWhile isD) < top then .piece 1 ((c :: r).takeWhile isD).length (num ((c :: r).takeWhile isD)) else .bad 4
    else if isL c then .piece 2 ((c :: r).takeWhile isLD).length 0
    else if isS c then
      if grows c && r.head? == some 61 then .piece 3 2 0 else .piece 3 1 0
    else .bad 3 := rfl
theorem not_fin (c : UInt8) (r : List UInt8) : one (c :: r) ≠ .fin := by
  rw [one_cons]
  repeat' split
  all_goals nofun
theorem emits_again {t : Tok} (h : Emits t) {c : UInt8} (hc : isB c = true) (r : List UInt8) : one (t.text ++ c :: r) = .piece t.kind t.text.length t.num := by
  obtain ⟨l, h, ht⟩ := h
  have hcD : isD c = false := by rcases blank_is hc with rfl | rfl | rfl <;> rfl
  have hcL : isLD c = false := by rcases blank_is hc with rfl | rfl | rfl <;> rfl
  have hc61 : ((c :: r).head? == some 61) = false := by rcases blank_is hc with rfl | rfl | rfl <;> rfl
  obtain ⟨kind, text, nu, line, col⟩ := t
  simp only at h ht ⊢
  cases l with
  | nil => simp [one] at h
  | cons a m =>
    rw [one_cons] at h
    by_cases h1 : isB a = true
    · simp [h1] at h
    rw [if_neg h1] at h
    by_cases h2 : (a == 35) = true
    · rw [if_pos h2] at h; cases h
    rw [if_neg h2] at h
    by_cases h3 : isD a = true
    · rw [if_pos h3] at h
      by_cases h4 : num ((a :: m).takeWhile isD) < top
      · rw [if_pos h4] at h
        injection h with e1 e2 e3
        have et : text = (a :: m).takeWhile isD := by rw [← ht, ← e2]; exact taken _
        have hall : text.all isD = true := by rw [et]; exact List.all_takeWhile
        have hs : (text ++ c :: r).takeWhile isD = text := stop_at hall hcD
        have hcons : text = a :: m.takeWhile isD := by rw [et, List.takeWhile_cons, h3]; rfl
        rw [← et] at h4 e3
        subst e1; subst e3
        rw [hcons] at hs h4 ⊢
        rw [List.cons_append] at hs ⊢
        rw [one_cons]
        rw [if_neg h1, if_neg h2, if_pos h3, hs, if_pos h4]
      · rw [if_neg h4] at h; cases h
    rw [if_neg h3] at h
    by_cases h5 : isL a = true
    · rw [if_pos h5] at h
      injection h with e1 e2 e3
      have et : text = (a :: m).takeWhile isLD := by rw [← ht, ← e2]; exact taken _
      have hall : text.all isLD = true := by rw [et]; exact List.all_takeWhile
      have hs : (text ++ c :: r).takeWhile isLD = text := stop_at hall hcL
      have hcons : text = a :: m.takeWhile isLD := by rw [et, List.takeWhile_cons, show isLD a = true by simp [isLD, h5]]; rfl
      subst e1; subst e3
      rw [hcons] at hs ⊢
      rw [List.cons_append] at hs ⊢
      rw [one_cons]
      rw [if_neg h1, if_neg h2, if_neg h3, if_pos h5, hs]
    rw [if_neg h5] at h
    by_cases h6 : isS a = true
    · rw [if_pos h6] at h
      by_cases h7 : (grows a && m.head? == some 61) = true
      · rw [if_pos h7] at h
        injection h with e1 e2 e3
        simp only [Bool.and_eq_true, beq_iff_eq] at h7
        cases m with
        | nil => simp at h7
        | cons d m =>
          have hd : d = 61 := by simpa using h7.2
          subst hd
          rw [← e2] at ht
          have et : text = [a, 61] := by rw [← ht]; rfl
          subst et; subst e1; subst e3
          show one (a :: 61 :: c :: r) = _
          rw [one_cons]
          rw [if_neg h1, if_neg h2, if_neg h3, if_neg h5, if_pos h6, if_pos (by rw [h7.1]; rfl)]
          rfl
      · rw [if_neg h7] at h
        injection h with e1 e2 e3
        rw [← e2] at ht
        have et : text = [a] := by rw [← ht]; rfl
        subst et; subst e1; subst e3
        show one (a :: c :: r) = _
        rw [one_cons]
        rw [if_neg h1, if_neg h2, if_neg h3, if_neg h5, if_pos h6, if_neg (by rw [hc61, Bool.and_false]; decide)]
        rfl
    · rw [if_neg h6] at h; cases h

/-- What may stand between pieces. -/
def Between (u : List UInt8) : Prop := (∃ c u', u = c :: u' ∧ isB c = true) ∧ ∀ r p, ∃ p', lex (u ++ r) p = lex r p'
theorem between1 (c : UInt8) (hc : isB c = true) : Between [c] :=
  ⟨⟨c, [], rfl, hc⟩, fun r p => ⟨adv p [c], lex_skip (n := 1) (by show one (c :: r) = _; simp only [one, hc, if_true])⟩⟩
theorem between2 : Between [9, 32] :=
  ⟨⟨9, [32], rfl, rfl⟩, fun r p => ⟨adv (adv p [9]) [32], (lex_skip (l := 9 :: 32 :: r) (n := 1) rfl).trans (lex_skip (l := 32 :: r) (n := 1) rfl)⟩⟩
theorem between4 : Between [32, 35, 59, 10] :=
  ⟨⟨32, _, rfl, rfl⟩, fun r p => ⟨adv (adv (adv p [32]) [35, 59]) [10], (lex_skip (l := 32 :: 35 :: 59 :: 10 :: r) (n := 1) rfl).trans ((lex_skip (l := 35 :: 59 :: 10 :: r) (n := 2) rfl).trans (lex_skip (l := 10 :: r) (n := 1) rfl))⟩⟩

def sheet (u : List UInt8) (ts : List Tok) : List UInt8 := (ts.flatMap fun t => u ++ t.text) ++ u
def Alike (a b : Tok) : Prop := b.kind = a.kind ∧ b.text = a.text ∧ b.num = a.num
theorem again (u : List UInt8) (hu : Between u) : ∀ (ts : List Tok), (∀ t ∈ ts, Emits t) → ∀ p, ∃ ts', lex (sheet u ts) p = .ok ts' ∧ ts'.length = ts.length + 1 ∧
    (∀ (i : Nat) a b, ts[i]? = some a → ts'[i]? = some b → Alike a b) ∧ (∀ b, ts'[ts.length]? = some b → b.kind = 0 ∧ b.text = [] ∧ b.num = 0)
  | [], _, p => by
    obtain ⟨p', h⟩ := hu.2 [] p
    rw [List.append_nil] at h
    refine ⟨_, h.trans (lex_fin p'), rfl, fun i a b ha => by simp at ha, fun b hb => ?_⟩
    have : b = ⟨0, [], 0, p'.1, p'.2⟩ := by simpa using hb.symm
    subst this; exact ⟨rfl, rfl, rfl⟩
  | t :: ts, he, p => by
    obtain ⟨p', h⟩ := hu.2 (t.text ++ sheet u ts) p
    have e : sheet u (t :: ts) = u ++ (t.text ++ sheet u ts) := by simp [sheet]
    obtain ⟨c, u', hcu, hc⟩ := hu.1
    have hst : ∃ r, sheet u ts = c :: r := by
      unfold sheet
      cases ts with
      | nil => exact ⟨u', by simp [hcu]⟩
      | cons a ts => exact ⟨_, by rw [List.flatMap_cons, hcu]; rfl⟩
    obtain ⟨r, hr⟩ := hst
    have ho : one (t.text ++ sheet u ts) = .piece t.kind t.text.length t.num := by rw [hr]; exact emits_again (he t (by simp)) hc r
    obtain ⟨ts', h1, h2, h3, h4⟩ := again u hu ts (fun a ha => he a (by simp [ha])) (adv p' t.text)
    refine ⟨⟨t.kind, t.text, t.num, p'.1, p'.2⟩ :: ts', ?_, by simp [h2], ?_, ?_⟩
    · rw [e, h, lex_piece ho, List.drop_left, List.take_left, h1]; rfl
    · intro i a b ha hb
      cases i with
      | zero =>
        have e1 : t = a := by simpa using ha
        have e2 : (⟨t.kind, t.text, t.num, p'.1, p'.2⟩ : Tok) = b := by simpa using hb
        subst e1; subst e2; exact ⟨rfl, rfl, rfl⟩
      | succ i => exact h3 i a b (by simpa using ha) (by simpa using hb)
    · intro b hb
      exact h4 b (by simpa using hb)

theorem one_kind {l : List UInt8} {k n v : Nat} (h : one l = .piece k n v) : k ≠ 0 := by
  cases l with
  | nil => cases h
  | cons a m =>
    rw [one_cons] at h
    repeat' split at h
    all_goals first | (injection h with e1; omega) | cases h
theorem lexF_emits : ∀ (f : Nat) (l : List UInt8) (p : Nat × Nat) (ts : List Tok), l.length < f → lexF f l p = .ok ts → ∃ body e, ts = body ++ [e] ∧ e.kind = 0 ∧ e.text = [] ∧ e.num = 0 ∧ ∀ t ∈ body, Emits t := by
  intro f
  induction f with
  | zero => intro l p ts h; omega
  | succ f ih =>
    intro l p ts hl h
    rw [lexF] at h
    cases ho : one l with
    | fin => rw [ho] at h; cases h; exact ⟨[], _, rfl, rfl, rfl, rfl, by simp⟩
    | bad e => rw [ho] at h; cases h
    | skip n =>
      rw [ho] at h
      cases l with
      | nil => cases ho
      | cons a m =>
        have := one_len a m; rw [ho] at this; simp only [Step.len] at this
        exact ih _ _ _ (by simp only [List.length_drop, List.length_cons] at *; omega) h
    | piece k n v =>
      rw [ho] at h
      simp only at h
      cases l with
      | nil => cases ho
      | cons a m =>
        have hn := one_len a m; rw [ho] at hn; simp only [Step.len] at hn
        cases hx : lexF f ((a :: m).drop n) (adv p ((a :: m).take n)) with
        | err e x y => rw [hx] at h; cases h
        | ok ts' =>
          rw [hx] at h
          obtain ⟨body, e, rfl, e1, e2, e3, hb⟩ := ih _ _ _ (by simp only [List.length_drop, List.length_cons] at *; omega) hx
          cases h
          have hlen : ((a :: m).take n).length = n := by simp only [List.length_take]; omega
          refine ⟨⟨k, (a :: m).take n, v, p.1, p.2⟩ :: body, e, rfl, e1, e2, e3, ?_⟩
          intro t ht
          rcases List.mem_cons.1 ht with rfl | ht
          · exact ⟨a :: m, by rw [hlen]; exact ho, by rw [hlen]⟩
          · exact hb t ht

/-! ### Places -/
def Ahead (p q : Nat × Nat) : Prop := p.1 < q.1 ∨ (p.1 = q.1 ∧ p.2 < q.2)
theorem ahead_step (p : Nat × Nat) (c : UInt8) : Ahead p (step1 p c) := by
  unfold step1 Ahead; split <;> simp
theorem ahead_trans {p q r : Nat × Nat} (h : Ahead p q) (k : Ahead q r) : Ahead p r := by unfold Ahead at *; omega
theorem pl_ahead (l : List UInt8) (i n : Nat) (h : i + n + 1 ≤ l.length) : Ahead (pl l i) (pl l (i + n + 1)) := by
  induction n with
  | zero => rw [Nat.add_zero, pl_succ l i (by omega)]; exact ahead_step _ _
  | succ n ih => rw [pl_succ l (i + (n + 1)) (by omega)]; exact ahead_trans (ih (by omega)) (ahead_step _ _)
theorem pl_inj (l : List UInt8) (i j : Nat) (hi : i < j) (hj : j ≤ l.length) : pl l i ≠ pl l j := by
  intro e
  have h := pl_ahead l i (j - i - 1) (by omega)
  rw [show i + (j - i - 1) + 1 = j by omega, ← e] at h
  unfold Ahead at h; omega

/-- A piece stands at its place. -/
def Stand (l : List UInt8) (t : Tok) : Prop := ∃ j, j ≤ l.length ∧ (t.line, t.col) = pl l j ∧ (t.kind = 0 → j = l.length) ∧ (t.kind ≠ 0 → t.text ≠ [] ∧ (l.drop j).take t.text.length = t.text ∧ j + t.text.length ≤ l.length)
theorem lex_stand (l : List UInt8) : ∀ (d k : Nat) (ts : List Tok), l.length - k = d → k ≤ l.length → lex (l.drop k) (pl l k) = .ok ts → ∀ t ∈ ts, Stand l t := by
  intro d
  induction d using Nat.strongRecOn with
  | _ d ih =>
    intro k ts hd hk h t ht
    rcases Nat.lt_or_ge k l.length with hlt | hge
    · cases ho : one (l.drop k) with
      | fin =>
        rw [drop_cons l k hlt] at ho
        exact absurd ho (not_fin _ _)
      | bad e => rw [lex_bad ho] at h; cases h
      | skip n =>
        have hp := skip_pos hlt ho
        have hn : n ≤ (l.drop k).length := by
          have := one_len (l.getD k 0) (l.drop (k + 1)); rw [← drop_cons l k hlt, ho] at this; exact this.2
        rw [List.length_drop] at hn
        rw [lex_on_skip ho] at h
        exact ih (l.length - (k + n)) (by omega) (k + n) ts rfl (by omega) h t ht
      | piece kd n v =>
        have hp := piece_pos hlt ho
        have hn : n ≤ (l.drop k).length := by
          have := one_len (l.getD k 0) (l.drop (k + 1)); rw [← drop_cons l k hlt, ho] at this; exact this.2
        have hlen : ((l.drop k).take n).length = n := by simp only [List.length_take]; omega
        rw [List.length_drop] at hn
        rw [lex_on_piece ho] at h
        cases hx : lex (l.drop (k + n)) (pl l (k + n)) with
        | err e x y => rw [hx] at h; cases h
        | ok ts' =>
          rw [hx] at h
          cases h
          rcases List.mem_cons.1 ht with rfl | ht
          · refine ⟨k, hk, rfl, fun e => absurd e (one_kind ho), fun _ => ⟨?_, by rw [hlen], by rw [hlen]; omega⟩⟩
            intro e
            have : ((l.drop k).take n).length = 0 := by rw [show (l.drop k).take n = [] from e]; rfl
            omega
          · exact ih (l.length - (k + n)) (by omega) (k + n) ts' rfl (by omega) hx t ht
    · obtain rfl : k = l.length := by omega
      rw [List.drop_of_length_le (Nat.le_refl _), lex_fin] at h
      cases h
      obtain rfl : t = _ := by simpa using ht
      exact ⟨l.length, Nat.le_refl _, rfl, fun _ => rfl, fun e => absurd rfl e⟩
theorem lexF_count : ∀ (f : Nat) (l : List UInt8) (p : Nat × Nat) (ts : List Tok), lexF f l p = .ok ts → ts.length ≤ l.length + 1 := by
  intro f
  induction f with
  | zero => intro l p ts h; cases h; simp
  | succ f ih =>
    intro l p ts h
    rw [lexF] at h
    cases ho : one l with
    | fin => rw [ho] at h; cases h; simp
    | bad e => rw [ho] at h; cases h
    | skip n =>
      rw [ho] at h
      have := ih _ _ _ h
      rw [List.length_drop] at this; omega
    | piece k n v =>
      rw [ho] at h
      simp only at h
      cases l with
      | nil => cases ho
      | cons a m =>
        have hn := one_len a m; rw [ho] at hn; simp only [Step.len] at hn
        cases hx : lexF f ((a :: m).drop n) (adv p ((a :: m).take n)) with
        | err e x y => rw [hx] at h; cases h
        | ok ts' =>
          rw [hx] at h
          have := ih _ _ _ hx
          cases h
          rw [List.length_drop] at this
          simp only [List.singleton_append, List.length_cons] at *
          omega
/-- What is known of the pieces of a text that is told. -/
theorem told {l : List UInt8} {ts : List Tok} {n : Nat} (h : lexAll l = .ok ts) (hn : ts.length = n + 1) : (∀ t ∈ ts.take n, Emits t) ∧ (∀ e, ts[n]? = some e → e.kind = 0 ∧ e.text = [] ∧ e.num = 0) ∧ (∀ t ∈ ts, Stand l t) ∧ n ≤ l.length := by
  unfold lexAll at h
  by_cases hl : l.length ≤ 4096
  · rw [if_pos hl] at h
    obtain ⟨body, e, rfl, e1, e2, e3, hb⟩ := lexF_emits _ _ _ _ (Nat.lt_succ_self _) h
    have hbl : body.length = n := by simpa using hn
    have hc := lexF_count _ _ _ _ h
    refine ⟨?_, ?_, lex_stand l l.length 0 _ rfl (Nat.zero_le _) h, by omega⟩
    · rw [← hbl, List.take_left]; exact hb
    · intro a ha
      rw [← hbl] at ha
      have : e = a := by simpa using ha
      subst this; exact ⟨e1, e2, e3⟩
  · rw [if_neg hl] at h; cases h
end Go.Proofs.Ytfmopeldhgfpoaa.Lex
