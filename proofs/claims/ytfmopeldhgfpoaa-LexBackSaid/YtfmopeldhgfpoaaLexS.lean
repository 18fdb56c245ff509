/- Layer 2 (lex): the document's pieces as a plain function over lists of bytes, and what follows of it. -/
import Derived.KernelRfl
namespace Go.Proofs.Ytfmopeldhgfpoaa.Lex

def isD (c : UInt8) : Bool := decide (48 ≤ c.toNat) && decide (c.toNat ≤ 57)
def isL (c : UInt8) : Bool := decide (97 ≤ c.toNat) && decide (c.toNat ≤ 122)
def isLD (c : UInt8) : Bool := isL c || isD c
def signs : List UInt8 := [61, 33, 60, 43, 45, 124, 94, 42, 47, 37, 38, 40, 41, 123, 125, 44, 59, 58]
def isS (c : UInt8) : Bool := decide (c ∈ signs)
def isB (c : UInt8) : Bool := c == 32 || c == 9 || c == 10
def isR (c : UInt8) : Bool := c != 10
def grows (c : UInt8) : Bool := c == 61 || c == 33 || c == 60

/-- A piece: its kind, its letters, its number, its place. -/
structure Tok where
  kind : Nat
  text : List UInt8
  num : Nat
  line : Nat
  col : Nat
deriving DecidableEq

inductive Res where
  | ok (ts : List Tok)
  | err (e line col : Nat)
deriving DecidableEq

def Res.more (acc : List Tok) : Res → Res
  | .ok ts => .ok (acc ++ ts)
  | r => r

inductive Step where
  | fin
  | skip (n : Nat)
  | piece (kind n v : Nat)
  | bad (e : Nat)
deriving DecidableEq

def num (l : List UInt8) : Nat := l.foldl (fun n c => 10 * n + (c.toNat - 48)) 0
def top : Nat := 18446744073709551616

def step1 (p : Nat × Nat) (c : UInt8) : Nat × Nat := if c == 10 then (p.1 + 1, 1) else (p.1, p.2 + 1)
def adv (p : Nat × Nat) (l : List UInt8) : Nat × Nat := l.foldl step1 p

/-- What stands at the head of a text. -/
def one : List UInt8 → Step
  | [] => .fin
  | c :: r =>
    if isB c then .skip 1
    else if c == 35 then .skip ((c :: r).takeWhile isR).length
    else if isD c then
      if num ((c :: r).takeWhile isD) < top then .piece 1 ((c :: r).takeWhile isD).length (num ((c :: r).takeWhile isD)) else .bad 4
    else if isL c then .piece 2 ((c :: r).takeWhile isLD).length 0
    else if isS c then
      if grows c && r.head? == some 61 then .piece 3 2 0 else .piece 3 1 0
    else .bad 3

def lexF : Nat → List UInt8 → Nat × Nat → Res
  | 0, _, p => .ok [⟨0, [], 0, p.1, p.2⟩]
  | f + 1, l, p =>
    match one l with
    | .fin => .ok [⟨0, [], 0, p.1, p.2⟩]
    | .skip n => lexF f (l.drop n) (adv p (l.take n))
    | .piece k n v => (lexF f (l.drop n) (adv p (l.take n))).more [⟨k, l.take n, v, p.1, p.2⟩]
    | .bad e => .err e p.1 p.2

def lex (l : List UInt8) (p : Nat × Nat) : Res := lexF (l.length + 1) l p

/-- The document's answer of a whole text. -/
def lexAll (l : List UInt8) : Res := if l.length ≤ 4096 then lex l (1, 1) else .err 4 1 1

/-- How far a step goes: not nowhere, and not behind the text's end. -/
def Step.len : Step → Nat
  | .skip n => n
  | .piece _ n _ => n
  | _ => 1

theorem takeWhile_pos {q : UInt8 → Bool} {c : UInt8} {r : List UInt8} (h : q c = true) : 0 < ((c :: r).takeWhile q).length := by
  simp [h]

theorem one_len (c : UInt8) (r : List UInt8) : 0 < (one (c :: r)).len ∧ (one (c :: r)).len ≤ (c :: r).length := by
  have tw : ∀ q : UInt8 → Bool, ((c :: r).takeWhile q).length ≤ (c :: r).length := fun q => (List.takeWhile_prefix q).length_le
  unfold one
  by_cases h1 : isB c = true
  · simp [h1, Step.len]
  by_cases h2 : (c == 35) = true
  · have : isR c = true := by
      have : c = 35 := by simpa using h2
      subst this; rfl
    simp only [h1, h2, Step.len, if_true, Bool.false_eq_true, if_false]
    exact ⟨takeWhile_pos this, tw _⟩
  by_cases h3 : isD c = true
  · by_cases h4 : num ((c :: r).takeWhile isD) < top
    · simp only [h1, h2, h3, h4, Step.len, if_true, Bool.false_eq_true, if_false]
      exact ⟨takeWhile_pos h3, tw _⟩
    · simp only [h1, h2, h3, h4, Step.len, if_true, Bool.false_eq_true, if_false]
      simp
  by_cases h5 : isL c = true
  · simp only [h1, h2, h3, h5, Step.len, if_true, Bool.false_eq_true, if_false]
    exact ⟨takeWhile_pos (by simp [isLD, h5]), tw _⟩
  by_cases h6 : isS c = true
  · by_cases h7 : (grows c && r.head? == some 61) = true
    · simp only [h1, h2, h3, h5, h6, h7, Step.len, if_true, Bool.false_eq_true, if_false]
      cases r with
      | nil => simp at h7
      | cons d r => simp
    · simp [h1, h2, h3, h5, h6, h7, Step.len]
  · simp [h1, h2, h3, h5, h6, Step.len]

theorem lexF_same : ∀ (f g : Nat) (l : List UInt8) (p : Nat × Nat), l.length < f → l.length < g → lexF f l p = lexF g l p := by
  intro f
  induction f with
  | zero => intro g l p h; omega
  | succ f ih =>
    intro g l p hf hg
    obtain ⟨g, rfl⟩ : ∃ k, g = k + 1 := ⟨g - 1, by omega⟩
    cases l with
    | nil => simp [lexF, one]
    | cons c r =>
      have hl := one_len c r
      simp only [lexF]
      cases ho : one (c :: r) with
      | fin => rfl
      | bad e => rfl
      | skip n =>
        rw [ho] at hl; simp only [Step.len] at hl
        exact ih g _ _ (by simp only [List.length_drop]; omega) (by simp only [List.length_drop]; omega)
      | piece k n v =>
        rw [ho] at hl; simp only [Step.len] at hl
        show Res.more _ _ = Res.more _ _
        rw [ih g _ _ (by simp only [List.length_drop]; omega) (by simp only [List.length_drop]; omega)]

theorem lex_fin (p : Nat × Nat) : lex [] p = .ok [⟨0, [], 0, p.1, p.2⟩] := rfl
theorem lex_skip {l : List UInt8} {p : Nat × Nat} {n : Nat} (h : one l = .skip n) : lex l p = lex (l.drop n) (adv p (l.take n)) := by
  cases l with
  | nil => simp [one] at h
  | cons c r =>
    have hl := one_len c r
    rw [h] at hl; simp only [Step.len] at hl
    unfold lex
    rw [lexF, h]
    exact lexF_same _ _ _ _ (by simp only [List.length_drop]; omega) (by omega)
theorem lex_piece {l : List UInt8} {p : Nat × Nat} {k n v : Nat} (h : one l = .piece k n v) :
    lex l p = (lex (l.drop n) (adv p (l.take n))).more [⟨k, l.take n, v, p.1, p.2⟩] := by
  cases l with
  | nil => simp [one] at h
  | cons c r =>
    have hl := one_len c r
    rw [h] at hl; simp only [Step.len] at hl
    unfold lex
    rw [lexF, h]
    show Res.more _ _ = Res.more _ _
    rw [lexF_same _ _ _ _ (by simp only [List.length_drop]; omega) (Nat.lt_succ_self _)]
theorem lex_bad {l : List UInt8} {p : Nat × Nat} {e : Nat} (h : one l = .bad e) : lex l p = .err e p.1 p.2 := by
  unfold lex; rw [lexF, h]

theorem more_more (a b : List Tok) (r : Res) : (r.more b).more a = r.more (a ++ b) := by
  cases r <;> simp [Res.more]
theorem more_nil (r : Res) : r.more [] = r := by cases r <;> simp [Res.more]

/-- Where a text's byte stands. -/
def pl (l : List UInt8) (k : Nat) : Nat × Nat := adv (1, 1) (l.take k)
theorem adv_append (p : Nat × Nat) (a b : List UInt8) : adv p (a ++ b) = adv (adv p a) b := by simp [adv]
theorem pl_zero (l : List UInt8) : pl l 0 = (1, 1) := rfl
theorem pl_succ (l : List UInt8) (k : Nat) (h : k < l.length) : pl l (k + 1) = step1 (pl l k) (l.getD k 0) := by
  have e : l.getD k 0 = l[k] := by simp [List.getD, h]
  unfold pl
  rw [List.take_succ_eq_append_getElem h, adv_append, e]; rfl
theorem pl_add (l : List UInt8) (k n : Nat) : adv (pl l k) ((l.drop k).take n) = pl l (k + n) := by
  unfold pl
  rw [← adv_append, List.take_add]
theorem pl_bd (l : List UInt8) (k : Nat) : 1 ≤ (pl l k).1 ∧ (pl l k).1 ≤ k + 1 ∧ 1 ≤ (pl l k).2 ∧ (pl l k).2 ≤ k + 1 := by
  induction k with
  | zero => simp [pl, adv]
  | succ k ih =>
    by_cases h : k < l.length
    · rw [pl_succ l k h]
      unfold step1
      split <;> simp <;> omega
    · have : pl l (k + 1) = pl l k := by
        unfold pl; rw [List.take_of_length_le (by omega), List.take_of_length_le (by omega)]
      rw [this]; omega

/-- The bytes from k on that please q are those up to j, where one does not, or the end is. -/
theorem takeWhile_upto {q : UInt8 → Bool} {l : List UInt8} {k j : Nat} (hk : k ≤ j) (hj : j ≤ l.length) (hin : ∀ i, k ≤ i → i < j → q (l.getD i 0) = true)
    (hout : j < l.length → q (l.getD j 0) = false) : (l.drop k).takeWhile q = (l.drop k).take (j - k) := by
  obtain ⟨n, rfl⟩ : ∃ n, j = k + n := ⟨j - k, by omega⟩
  clear hk
  rw [Nat.add_sub_cancel_left]
  induction n generalizing k with
  | zero =>
    by_cases h : k < l.length
    · have h0 := hout (by omega)
      have e : l.getD (k + 0) 0 = l[k] := by simp [List.getD, h]
      rw [e] at h0
      rw [List.drop_eq_getElem_cons h, List.takeWhile_cons, h0]; simp
    · rw [List.drop_of_length_le (by omega)]; simp
  | succ n ih =>
    have h : k < l.length := by omega
    have e : l.getD k 0 = l[k] := by simp [List.getD, h]
    rw [List.drop_eq_getElem_cons h, List.takeWhile_cons, ← e, hin k (Nat.le_refl _) (by omega), List.take_succ_cons]
    simp only [if_true]
    rw [ih (k := k + 1) (by omega) (fun i h1 h2 => hin i (by omega) (by omega)) (fun h => by have := hout (by omega); rw [Nat.add_assoc, Nat.add_comm 1 n]; exact this)]
theorem drop_cons (l : List UInt8) (k : Nat) (h : k < l.length) : l.drop k = l.getD k 0 :: l.drop (k + 1) := by
  rw [List.drop_eq_getElem_cons h]; simp [List.getD, h]
theorem take_snoc (l : List UInt8) (k j : Nat) (hk : k ≤ j) (h : j < l.length) : (l.drop k).take (j + 1 - k) = (l.drop k).take (j - k) ++ [l.getD j 0] := by
  have e : j + 1 - k = (j - k) + 1 := by omega
  rw [e, List.take_succ_eq_append_getElem (by simp; omega)]
  congr 1
  have : k + (j - k) = j := by omega
  simp [List.getD, h, this]

theorem num_snoc (l : List UInt8) (c : UInt8) : num (l ++ [c]) = 10 * num l + (c.toNat - 48) := by simp [num]
theorem num_le_append (a b : List UInt8) : num a ≤ num (a ++ b) := by
  induction b generalizing a with
  | nil => simp
  | cons c r ih =>
    have h := ih (a ++ [c])
    rw [num_snoc] at h
    rw [List.append_assoc] at h
    simp at h
    omega
theorem lex_on_skip {l : List UInt8} {k n : Nat} (h : one (l.drop k) = .skip n) : lex (l.drop k) (pl l k) = lex (l.drop (k + n)) (pl l (k + n)) := by
  rw [lex_skip h, pl_add, List.drop_drop]
theorem lex_on_piece {l : List UInt8} {k d n v : Nat} (h : one (l.drop k) = .piece d n v) :
    lex (l.drop k) (pl l k) = (lex (l.drop (k + n)) (pl l (k + n))).more [⟨d, (l.drop k).take n, v, (pl l k).1, (pl l k).2⟩] := by
  rw [lex_piece h, pl_add, List.drop_drop]

/-- All bytes from k up to j please q. -/
def Scan (q : UInt8 → Bool) (l : List UInt8) (k j : Nat) : Prop := ∀ i, k ≤ i → i < j → q (l.getD i 0) = true
def Stops (q : UInt8 → Bool) (l : List UInt8) (j : Nat) : Prop := j < l.length → q (l.getD j 0) = false
theorem Scan.none (q : UInt8 → Bool) (l : List UInt8) (k : Nat) : Scan q l k k := fun i h1 h2 => absurd h2 (by omega)
theorem Scan.next {q : UInt8 → Bool} {l : List UInt8} {k j : Nat} (h : Scan q l k j) (hq : q (l.getD j 0) = true) : Scan q l k (j + 1) := by
  intro i h1 h2
  by_cases e : i = j
  · subst e; exact hq
  · exact h i h1 (by omega)
theorem scanned {q : UInt8 → Bool} {l : List UInt8} {k j : Nat} (hk : k ≤ j) (hj : j ≤ l.length) (h : Scan q l k j) (hs : Stops q l j) : (l.drop k).takeWhile q = (l.drop k).take (j - k) :=
  takeWhile_upto hk hj h hs
theorem scan_split {q : UInt8 → Bool} {l : List UInt8} {k j : Nat} (hk : k ≤ j) (hj : j ≤ l.length) (h : Scan q l k j) : (l.drop k).takeWhile q = (l.drop k).take (j - k) ++ (l.drop j).takeWhile q := by
  obtain ⟨n, rfl⟩ : ∃ n, j = k + n := ⟨j - k, by omega⟩
  clear hk
  rw [Nat.add_sub_cancel_left]
  induction n generalizing k with
  | zero => simp
  | succ n ih =>
    have hl : k < l.length := by omega
    rw [drop_cons l k hl, List.takeWhile_cons, h k (Nat.le_refl _) (by omega), List.take_succ_cons]
    have e : k + (n + 1) = k + 1 + n := by omega
    have := ih (k := k + 1) (by omega) (fun i h1 h2 => h i (by omega) (by omega))
    simp only [if_true, List.cons_append, e, this]

section
variable {l : List UInt8} {k j : Nat}
theorem one_blank (hk : k < l.length) (h : isB (l.getD k 0) = true) : one (l.drop k) = .skip 1 := by
  rw [drop_cons l k hk]; simp only [one, h, if_true]
theorem one_remark (hk : k < l.length) (hb : isB (l.getD k 0) = false) (h : (l.getD k 0 == 35) = true) (hkj : k ≤ j) (hj : j ≤ l.length) (hs : Scan isR l k j) (ht : Stops isR l j) : one (l.drop k) = .skip (j - k) := by
  have e := scanned hkj hj hs ht
  rw [drop_cons l k hk] at e ⊢
  simp only [one, hb, h, e, Bool.false_eq_true, if_false, if_true, List.length_take]
  congr 1
  simp only [List.length_cons, List.length_drop]; omega
theorem one_number (hk : k < l.length) (hb : isB (l.getD k 0) = false) (h35 : (l.getD k 0 == 35) = false) (h : isD (l.getD k 0) = true) (hkj : k ≤ j) (hj : j ≤ l.length) (hs : Scan isD l k j) (ht : Stops isD l j)
    (hn : num ((l.drop k).take (j - k)) < top) : one (l.drop k) = .piece 1 (j - k) (num ((l.drop k).take (j - k))) := by
  have e := scanned hkj hj hs ht
  have hl : ((l.drop k).take (j - k)).length = j - k := by simp only [List.length_take, List.length_drop]; omega
  rw [drop_cons l k hk] at e hl hn ⊢
  simp only [one, hb, h35, h, e, hn, hl, Bool.false_eq_true, if_false, if_true]
theorem one_number_bad (hk : k < l.length) (hb : isB (l.getD k 0) = false) (h35 : (l.getD k 0 == 35) = false) (h : isD (l.getD k 0) = true) (hkj : k ≤ j) (hj : j ≤ l.length) (hs : Scan isD l k j)
    (hn : ¬ num ((l.drop k).take (j - k)) < top) : one (l.drop k) = .bad 4 := by
  have e := scan_split hkj hj hs
  have hn' : ¬ num ((l.drop k).takeWhile isD) < top := by
    rw [e]; have := num_le_append ((l.drop k).take (j - k)) ((l.drop j).takeWhile isD); omega
  rw [drop_cons l k hk] at hn' ⊢
  simp only [one, hb, h35, h, hn', Bool.false_eq_true, if_false, if_true]
theorem one_word (hk : k < l.length) (hb : isB (l.getD k 0) = false) (h35 : (l.getD k 0 == 35) = false) (hd : isD (l.getD k 0) = false) (h : isL (l.getD k 0) = true) (hkj : k ≤ j) (hj : j ≤ l.length) (hs : Scan isLD l k j) (ht : Stops isLD l j) :
    one (l.drop k) = .piece 2 (j - k) 0 := by
  have e := scanned hkj hj hs ht
  have hl : ((l.drop k).take (j - k)).length = j - k := by simp only [List.length_take, List.length_drop]; omega
  rw [drop_cons l k hk] at e hl ⊢
  simp only [one, hb, h35, hd, h, e, hl, Bool.false_eq_true, if_false, if_true]
theorem skip_pos {n : Nat} (hk : k < l.length) (h : one (l.drop k) = .skip n) : 0 < n := by
  rw [drop_cons l k hk] at h
  have := one_len (l.getD k 0) (l.drop (k + 1)); rw [h] at this; exact this.1
theorem piece_pos {d n v : Nat} (hk : k < l.length) (h : one (l.drop k) = .piece d n v) : 0 < n := by
  rw [drop_cons l k hk] at h
  have := one_len (l.getD k 0) (l.drop (k + 1)); rw [h] at this; exact this.1
theorem head_next (hk : k + 1 < l.length) : (l.drop (k + 1)).head? = some (l.getD (k + 1) 0) := by rw [drop_cons l (k + 1) hk]; rfl
theorem one_sign (hk : k < l.length) (hb : isB (l.getD k 0) = false) (h35 : (l.getD k 0 == 35) = false) (hd : isD (l.getD k 0) = false) (hl : isL (l.getD k 0) = false) (h : isS (l.getD k 0) = true) :
    one (l.drop k) = .piece 3 (if grows (l.getD k 0) && l.getD (k + 1) 0 == 61 then 2 else 1) 0 := by
  have e : (grows (l.getD k 0) && (l.drop (k + 1)).head? == some 61) = (grows (l.getD k 0) && l.getD (k + 1) 0 == 61) := by
    by_cases hk1 : k + 1 < l.length
    · rw [head_next hk1]; rfl
    · rw [List.drop_of_length_le (by omega)]
      have : l.getD (k + 1) 0 = 0 := by rw [List.getD_eq_getElem?_getD, List.getElem?_eq_none (by omega)]; rfl
      rw [this]; rfl
  rw [drop_cons l k hk]
  simp only [one, hb, h35, hd, hl, h, e, Bool.false_eq_true, if_false, if_true]
  split <;> rfl
theorem one_form (hk : k < l.length) (hb : isB (l.getD k 0) = false) (h35 : (l.getD k 0 == 35) = false) (hd : isD (l.getD k 0) = false) (hl : isL (l.getD k 0) = false) (h : isS (l.getD k 0) = false) : one (l.drop k) = .bad 3 := by
  rw [drop_cons l k hk]
  simp only [one, hb, h35, hd, hl, h, Bool.false_eq_true, if_false]
end
end Go.Proofs.Ytfmopeldhgfpoaa.Lex
