/- Layer 4 (prog): tests as plain data: blocks of statements, how deep they are, how they are written; unlike ones are written unlike. -/
import Derived.Test.YtpdpofoicdijlaaGreatDoorExprT
namespace Go.Proofs.YtpdpofoicdijlaaGreatDoor.Prog
open Go.Proofs.YtpdpofoicdijlaaGreatDoor.Expr

/-- A statement's own parts. -/
structure Mk where
  kind : Nat
  reg : Nat
  mode : Nat
  loc : Nat
  a : Option Ex
  b : Option Ex
deriving DecidableEq

/-- A block: a statement with its own blocks, and the rest. -/
inductive Blk
  | nil
  | cons (m : Mk) (t e r : Blk)
deriving DecidableEq

def Blk.len : Blk → Nat
  | .nil => 0
  | .cons _ _ _ r => r.len + 1
/-- All statements, in all blocks. -/
def Blk.size : Blk → Nat
  | .nil => 0
  | .cons _ t e r => t.size + e.size + r.size + 1
def Blk.snoc : Blk → Mk → Blk → Blk → Blk
  | .nil, m, t, e => .cons m t e .nil
  | .cons m' t' e' r, m, t, e => .cons m' t' e' (r.snoc m t e)
def Blk.app : Blk → Blk → Blk
  | .nil, b => b
  | .cons m t e r, b => .cons m t e (r.app b)
theorem Blk.app_nil (b : Blk) : b.app .nil = b := by
  induction b with
  | nil => rfl
  | cons m t e r _ _ ih => simp only [Blk.app, ih]
theorem Blk.snoc_app (p : Blk) (m : Mk) (t e r : Blk) : (p.snoc m t e).app r = p.app (.cons m t e r) := by
  induction p with
  | nil => rfl
  | cons m' t' e' r' _ _ ih => simp only [Blk.snoc, Blk.app, ih]
theorem Blk.len_snoc (p : Blk) (m : Mk) (t e : Blk) : (p.snoc m t e).len = p.len + 1 := by
  induction p with
  | nil => rfl
  | cons m' t' e' r' _ _ ih => simp only [Blk.snoc, Blk.len, ih]
theorem Blk.len_app (p b : Blk) : (p.app b).len = p.len + b.len := by
  induction p with
  | nil => simp [Blk.app, Blk.len]
  | cons m' t' e' r' _ _ ih => simp only [Blk.app, Blk.len, ih]; omega
theorem Blk.len_zero {b : Blk} (h : b.len = 0) : b = .nil := by
  cases b with
  | nil => rfl
  | cons _ _ _ _ => simp [Blk.len] at h
theorem Blk.len_size (b : Blk) : b.len ≤ b.size := by
  induction b with
  | nil => exact Nat.le_refl _
  | cons m t e r _ _ ih => simp only [Blk.len, Blk.size]; omega

/-- How deep blocks are. -/
def Blk.deep : Blk → Nat
  | .nil => 1
  | .cons m t e r => max (if m.kind = 8 then max (t.deep + 1) (e.deep + 1) else if m.kind = 9 then t.deep + 1 else 1) r.deep
theorem Blk.deep_pos (b : Blk) : 1 ≤ b.deep := by
  induction b with
  | nil => exact Nat.le_refl _
  | cons m t e r _ _ ih => simp only [Blk.deep]; omega
/-- How many statements are told, where so many blocks are gone into. -/
def Blk.told : Blk → Nat → Nat
  | .nil, _ => 0
  | .cons _ _ _ _, 0 => 0
  | .cons m t e r, room + 1 => 1 + (if m.kind = 8 then t.told room + e.told room else if m.kind = 9 then t.told room else 0) + r.told (room + 1)
theorem Blk.told_zero (b : Blk) : b.told 0 = 0 := by cases b <;> rfl
theorem Blk.told_size (b : Blk) : ∀ room, b.told room ≤ b.size := by
  induction b with
  | nil => intro room; simp [Blk.told]
  | cons m t e r iht ihe ihr =>
    intro room
    cases room with
    | zero => simp [Blk.told]
    | succ room =>
      have h1 := iht room
      have h2 := ihe room
      have h3 := ihr (room + 1)
      simp only [Blk.told, Blk.size]
      split
      · omega
      · split <;> omega
/-- Whether statements stand in one another more often than room. -/
def Blk.over : Blk → Nat → Bool
  | .nil, _ => false
  | .cons _ _ _ _, 0 => true
  | .cons _ t e r, room + 1 => t.over room || e.over room || r.over (room + 1)

/-! ### How it is written -/
def trO : Option Ex → Tr
  | none => .nil
  | some e => treeOf e
def okO : Option Ex → Prop
  | none => True
  | some e => e.ok ∧ e.depth ≤ 12
theorem trO_inj {a b : Option Ex} (h : trO a = trO b) : a = b := by
  cases a with
  | none => cases b with
    | none => rfl
    | some e => cases e <;> simp [trO, treeOf] at h
  | some e => cases b with
    | none => cases e <;> simp [trO, treeOf] at h
    | some f => rw [treeOf_inj e f h]
def exO : Option Ex → List UInt8
  | none => []
  | some e => e.text
def modeTxt (m : Nat) : List UInt8 := [[], [112, 108, 110], [114, 108, 120], [97, 99, 113], [114, 101, 108], [97, 114], [115, 99]].getD m []
/-- The first line of a statement, without what stands ahead of it, and without its end. -/
def headOf (m : Mk) : List UInt8 :=
  match m.kind with
  | 1 => 114 :: (dec m.reg ++ 32 :: 61 :: 32 :: (exO m.a ++ [59]))
  | 2 => 114 :: (dec m.reg ++ 32 :: 61 :: 32 :: 108 :: 111 :: 97 :: 100 :: 40 :: m.loc.toUInt8 :: 44 :: 32 :: (modeTxt m.mode ++ [41, 59]))
  | 3 => 115 :: 116 :: 111 :: 114 :: 101 :: 40 :: m.loc.toUInt8 :: 44 :: 32 :: (exO m.a ++ 44 :: 32 :: (modeTxt m.mode ++ [41, 59]))
  | 4 => 114 :: (dec m.reg ++ 32 :: 61 :: 32 :: 115 :: 119 :: 97 :: 112 :: 40 :: m.loc.toUInt8 :: 44 :: 32 :: (exO m.a ++ 44 :: 32 :: (modeTxt m.mode ++ [41, 59])))
  | 5 => 114 :: (dec m.reg ++ 32 :: 61 :: 32 :: 97 :: 100 :: 100 :: 40 :: m.loc.toUInt8 :: 44 :: 32 :: (exO m.a ++ 44 :: 32 :: (modeTxt m.mode ++ [41, 59])))
  | 6 => 114 :: (dec m.reg ++ 32 :: 61 :: 32 :: 99 :: 97 :: 115 :: 40 :: m.loc.toUInt8 :: 44 :: 32 :: (exO m.a ++ 44 :: 32 :: (exO m.b ++ 44 :: 32 :: (modeTxt m.mode ++ [41, 59]))))
  | 7 => 102 :: 101 :: 110 :: 99 :: 101 :: 40 :: (modeTxt m.mode ++ [41, 59])
  | 8 => 105 :: 102 :: 32 :: 40 :: (exO m.a ++ [41, 32, 123])
  | 9 => 119 :: 104 :: 105 :: 108 :: 101 :: 32 :: 40 :: (exO m.a ++ [41, 32, 123])
  | _ => []
def indent (d : Nat) : List UInt8 := List.replicate (2 * d) 32
def line (d : Nat) (s : List UInt8) : List UInt8 := indent d ++ (s ++ [10])
def elseTxt : List UInt8 := [125, 32, 101, 108, 115, 101, 32, 123]
/-- A block that stands so deep; nothing of one that stands too deep. -/
def Blk.text : Blk → Nat → List UInt8
  | .nil, _ => []
  | .cons m t e r, d =>
    if 8 < d then [] else
    (if m.kind = 8 then line d (headOf m) ++ (t.text (d + 1) ++ ((if e.len = 0 then [] else line d elseTxt ++ e.text (d + 1)) ++ line d [125]))
      else if m.kind = 9 then line d (headOf m) ++ (t.text (d + 1) ++ line d [125])
      else if 1 ≤ m.kind ∧ m.kind ≤ 7 then line d (headOf m) else []) ++ r.text d
/-- A test. -/
structure Ts where
  init : List (Nat × Nat)
  threads : List Blk
  all : Bool
  ask : Option Ex
deriving DecidableEq
def initTxt (i : Nat × Nat) : List UInt8 := 105 :: 110 :: 105 :: 116 :: 32 :: i.1.toUInt8 :: 32 :: 61 :: 32 :: (dec i.2 ++ [59, 10])
def threadTxt (b : Blk) : List UInt8 := [116, 104, 114, 101, 97, 100, 32, 123, 10] ++ (b.text 1 ++ [125, 10])
def quant (all : Bool) : List UInt8 := if all then [102, 111, 114, 97, 108, 108] else [101, 120, 105, 115, 116, 115]
def Ts.text (t : Ts) : List UInt8 := t.init.flatMap initTxt ++ (t.threads.flatMap threadTxt ++ (quant t.all ++ 32 :: (exO t.ask ++ [59, 10])))

/-! ### What may be -/
def isLetter (x : Nat) : Prop := 97 ≤ x ∧ x ≤ 122
def Mk.proper (m : Mk) : Prop :=
  okO m.a ∧ okO m.b ∧
  match m.kind with
  | 1 => m.mode = 0 ∧ m.loc = 0 ∧ m.a.isSome ∧ m.b = none
  | 2 => (m.mode = 1 ∨ m.mode = 2 ∨ m.mode = 3) ∧ isLetter m.loc ∧ m.a = none ∧ m.b = none
  | 3 => (m.mode = 1 ∨ m.mode = 2 ∨ m.mode = 4) ∧ isLetter m.loc ∧ m.reg = 0 ∧ m.a.isSome ∧ m.b = none
  | 4 => (m.mode = 2 ∨ m.mode = 3 ∨ m.mode = 4 ∨ m.mode = 5) ∧ isLetter m.loc ∧ m.a.isSome ∧ m.b = none
  | 5 => (m.mode = 2 ∨ m.mode = 3 ∨ m.mode = 4 ∨ m.mode = 5) ∧ isLetter m.loc ∧ m.a.isSome ∧ m.b = none
  | 6 => (m.mode = 2 ∨ m.mode = 3 ∨ m.mode = 4 ∨ m.mode = 5) ∧ isLetter m.loc ∧ m.a.isSome ∧ m.b.isSome
  | 7 => (m.mode = 3 ∨ m.mode = 4 ∨ m.mode = 5 ∨ m.mode = 6) ∧ m.loc = 0 ∧ m.reg = 0 ∧ m.a = none ∧ m.b = none
  | 8 => m.mode = 0 ∧ m.loc = 0 ∧ m.reg = 0 ∧ m.a.isSome ∧ m.b = none
  | 9 => m.mode = 0 ∧ m.loc = 0 ∧ m.reg = 0 ∧ m.a.isSome ∧ m.b = none
  | _ => False
def Blk.proper : Blk → Prop
  | .nil => True
  | .cons m t e r => m.proper ∧ t.proper ∧ e.proper ∧ r.proper ∧ (m.kind ≠ 8 → e = .nil) ∧ (m.kind ≠ 8 → m.kind ≠ 9 → t = .nil)
/-- Expressions that are none, or may be. -/
def Blk.fine : Blk → Prop
  | .nil => True
  | .cons m t e r => okO m.a ∧ okO m.b ∧ m.reg < 256 ∧ m.mode < 256 ∧ m.loc < 256 ∧ m.kind < 256 ∧ t.fine ∧ e.fine ∧ r.fine
theorem Blk.fine_snoc {p : Blk} {m : Mk} {t e : Blk} (hp : p.fine) (h : (Blk.cons m t e .nil).fine) : (p.snoc m t e).fine := by
  induction p with
  | nil => exact h
  | cons m' t' e' r' _ _ ih =>
    obtain ⟨h1, h2, h3, h4, h5, h6, h7, h8, h9⟩ := hp
    exact ⟨h1, h2, h3, h4, h5, h6, h7, h8, ih h9⟩

/-! ### Unlike ones are written unlike -/
theorem fol_semi (s : List UInt8) : Fol 0 (59 :: s) := fol_cons 0 (by decide) (by decide) (by decide)
theorem fol_comma (s : List UInt8) : Fol 0 (44 :: s) := fol_cons 0 (by decide) (by decide) (by decide)
theorem fol_close (s : List UInt8) : Fol 0 (41 :: s) := fol_cons 0 (by decide) (by decide) (by decide)
theorem exO_cancel {a b : Option Ex} (ha : okO a) (hb : okO b) (ia : a.isSome = true) (ib : b.isSome = true) {s t : List UInt8} (hs : Fol 0 s) (ht : Fol 0 t) (h : exO a ++ s = exO b ++ t) : a = b ∧ s = t := by
  cases a with
  | none => cases ia
  | some a => cases b with
    | none => cases ib
    | some b =>
      obtain ⟨h1, h2⟩ := text_cancel ha.1 hb.1 hs ht h
      exact ⟨by rw [h1], h2⟩
/-- No expression that ends so begins with a word and a parenthesis. -/
theorem exO_word {a : Option Ex} (ha : okO a) (ia : a.isSome = true) {x : Nat} (hx : 97 ≤ x ∧ x ≤ 122 ∧ x ≠ 114) {c : UInt8} {s t : List UInt8} (h1 : isDig c = false) (h2 : c ≠ 58) (h3 : c ≠ 32) (h4 : c ≠ 59) (h : exO a ++ 59 :: s = x.toUInt8 :: c :: t) : False := by
  cases a with
  | none => cases ia
  | some a =>
    obtain ⟨_, h⟩ := text_cancel (b := .loc x) ha.1 hx (fol_semi s) (fol_cons 0 h1 h2 h3) (show a.text ++ 59 :: s = (Ex.loc x).text ++ c :: t from h)
    injection h with h _
    exact h4 h.symm
theorem letter_inj {x y : Nat} (hx : isLetter x) (hy : isLetter y) (h : x.toUInt8 = y.toUInt8) : x = y := by
  have := congrArg UInt8.toNat h
  unfold isLetter at hx hy
  simp only [Nat.toUInt8_eq, UInt8.toNat_ofNat'] at this
  omega
theorem dec_eq {m n : Nat} {s t : List UInt8} (h : dec m ++ 32 :: s = dec n ++ 32 :: t) : m = n ∧ s = t := by
  obtain ⟨h1, h2⟩ := dec_cancel (s := 32 :: s) (t := 32 :: t) rfl rfl h
  exact ⟨h1, by injection h2⟩
theorem mode_cancel {m n : Nat} (hm : 1 ≤ m ∧ m ≤ 6) (hn : 1 ≤ n ∧ n ≤ 6) {s t : List UInt8} (h : modeTxt m ++ 41 :: s = modeTxt n ++ 41 :: t) : m = n ∧ s = t := by
  obtain rfl | rfl | rfl | rfl | rfl | rfl : m = 1 ∨ m = 2 ∨ m = 3 ∨ m = 4 ∨ m = 5 ∨ m = 6 := by omega
  all_goals
    obtain rfl | rfl | rfl | rfl | rfl | rfl : n = 1 ∨ n = 2 ∨ n = 3 ∨ n = 4 ∨ n = 5 ∨ n = 6 := by omega
    all_goals simp [modeTxt] at h
    all_goals first | exact ⟨rfl, h⟩ | exact h.elim
theorem kinds {m : Mk} (h : m.proper) : m.kind = 1 ∨ m.kind = 2 ∨ m.kind = 3 ∨ m.kind = 4 ∨ m.kind = 5 ∨ m.kind = 6 ∨ m.kind = 7 ∨ m.kind = 8 ∨ m.kind = 9 := by
  obtain ⟨k, r, mo, x, a, b⟩ := m
  obtain ⟨_, _, h⟩ := h
  simp only at h ⊢
  split at h <;> simp_all
set_option maxHeartbeats 2000000 in
theorem head_cancel {m n : Mk} (hm : m.proper) (hn : n.proper) {s t : List UInt8} (h : headOf m ++ 10 :: s = headOf n ++ 10 :: t) : m = n ∧ s = t := by
  have km := kinds hm
  have kn := kinds hn
  obtain ⟨k, r, mo, x, a, b⟩ := m
  obtain ⟨k', r', mo', x', a', b'⟩ := n
  obtain ⟨oa, ob, hm⟩ := hm
  obtain ⟨oa', ob', hn⟩ := hn
  simp only at oa ob oa' ob' km kn
  rcases km with rfl | rfl | rfl | rfl | rfl | rfl | rfl | rfl | rfl
  all_goals rcases kn with rfl | rfl | rfl | rfl | rfl | rfl | rfl | rfl | rfl
  all_goals simp only [headOf, List.cons_append, List.append_assoc, List.nil_append, List.cons.injEq, true_and] at h
  all_goals try (exact absurd h.1 (by decide))
  all_goals simp only at hm hn
  all_goals try (have h' := dec_eq h; clear h; obtain ⟨rfl, h⟩ := h')
  all_goals try simp only [List.cons.injEq, true_and] at h
  all_goals try (exact absurd h.1 (by decide))
  -- 1 beside others
  · obtain ⟨rfl, rfl, ia, rfl⟩ := hm
    obtain ⟨rfl, rfl, ia', rfl⟩ := hn
    (have h' := exO_cancel oa oa' ia ia' (fol_semi _) (fol_semi _) h; clear h; obtain ⟨rfl, h⟩ := h')
    simp only [List.cons.injEq, true_and] at h
    exact ⟨rfl, h⟩
  · exact (exO_word (x := 108) oa hm.2.2.1 (by decide) (by decide) (by decide) (by decide) (by decide) h).elim
  · exact (exO_word (x := 115) oa hm.2.2.1 (by decide) (by decide) (by decide) (by decide) (by decide) h).elim
  · exact (exO_word (x := 97) oa hm.2.2.1 (by decide) (by decide) (by decide) (by decide) (by decide) h).elim
  · exact (exO_word (x := 99) oa hm.2.2.1 (by decide) (by decide) (by decide) (by decide) (by decide) h).elim
  -- 2
  · exact (exO_word (x := 108) oa' hn.2.2.1 (by decide) (by decide) (by decide) (by decide) (by decide) h.symm).elim
  · obtain ⟨hmo, hx, rfl, rfl⟩ := hm
    obtain ⟨hmo', hx', rfl, rfl⟩ := hn
    obtain ⟨hxx, h⟩ := h
    obtain rfl := letter_inj hx hx' hxx
    (have h' := mode_cancel (by omega) (by omega) h; clear h; obtain ⟨rfl, h⟩ := h')
    simp only [List.cons.injEq, true_and] at h
    exact ⟨rfl, h⟩
  -- 3
  · obtain ⟨hmo, hx, rfl, ia, rfl⟩ := hm
    obtain ⟨hmo', hx', rfl, ia', rfl⟩ := hn
    obtain ⟨hxx, h⟩ := h
    obtain rfl := letter_inj hx hx' hxx
    (have h' := exO_cancel oa oa' ia ia' (fol_comma _) (fol_comma _) h; clear h; obtain ⟨rfl, h⟩ := h')
    simp only [List.cons.injEq, true_and] at h
    (have h' := mode_cancel (by omega) (by omega) h; clear h; obtain ⟨rfl, h⟩ := h')
    simp only [List.cons.injEq, true_and] at h
    exact ⟨rfl, h⟩
  -- 4
  · exact (exO_word (x := 115) oa' hn.2.2.1 (by decide) (by decide) (by decide) (by decide) (by decide) h.symm).elim
  · obtain ⟨hmo, hx, ia, rfl⟩ := hm
    obtain ⟨hmo', hx', ia', rfl⟩ := hn
    obtain ⟨hxx, h⟩ := h
    obtain rfl := letter_inj hx hx' hxx
    (have h' := exO_cancel oa oa' ia ia' (fol_comma _) (fol_comma _) h; clear h; obtain ⟨rfl, h⟩ := h')
    simp only [List.cons.injEq, true_and] at h
    (have h' := mode_cancel (by omega) (by omega) h; clear h; obtain ⟨rfl, h⟩ := h')
    simp only [List.cons.injEq, true_and] at h
    exact ⟨rfl, h⟩
  -- 5
  · exact (exO_word (x := 97) oa' hn.2.2.1 (by decide) (by decide) (by decide) (by decide) (by decide) h.symm).elim
  · obtain ⟨hmo, hx, ia, rfl⟩ := hm
    obtain ⟨hmo', hx', ia', rfl⟩ := hn
    obtain ⟨hxx, h⟩ := h
    obtain rfl := letter_inj hx hx' hxx
    (have h' := exO_cancel oa oa' ia ia' (fol_comma _) (fol_comma _) h; clear h; obtain ⟨rfl, h⟩ := h')
    simp only [List.cons.injEq, true_and] at h
    (have h' := mode_cancel (by omega) (by omega) h; clear h; obtain ⟨rfl, h⟩ := h')
    simp only [List.cons.injEq, true_and] at h
    exact ⟨rfl, h⟩
  -- 6
  · exact (exO_word (x := 99) oa' hn.2.2.1 (by decide) (by decide) (by decide) (by decide) (by decide) h.symm).elim
  · obtain ⟨hmo, hx, ia, ib⟩ := hm
    obtain ⟨hmo', hx', ia', ib'⟩ := hn
    obtain ⟨hxx, h⟩ := h
    obtain rfl := letter_inj hx hx' hxx
    (have h' := exO_cancel oa oa' ia ia' (fol_comma _) (fol_comma _) h; clear h; obtain ⟨rfl, h⟩ := h')
    simp only [List.cons.injEq, true_and] at h
    (have h' := exO_cancel ob ob' ib ib' (fol_comma _) (fol_comma _) h; clear h; obtain ⟨rfl, h⟩ := h')
    simp only [List.cons.injEq, true_and] at h
    (have h' := mode_cancel (by omega) (by omega) h; clear h; obtain ⟨rfl, h⟩ := h')
    simp only [List.cons.injEq, true_and] at h
    exact ⟨rfl, h⟩
  -- 7
  · obtain ⟨hmo, rfl, rfl, rfl, rfl⟩ := hm
    obtain ⟨hmo', rfl, rfl, rfl, rfl⟩ := hn
    (have h' := mode_cancel (by omega) (by omega) h; clear h; obtain ⟨rfl, h⟩ := h')
    simp only [List.cons.injEq, true_and] at h
    exact ⟨rfl, h⟩
  -- 8, 9
  all_goals
    obtain ⟨rfl, rfl, rfl, ia, rfl⟩ := hm
    obtain ⟨rfl, rfl, rfl, ia', rfl⟩ := hn
    (have h' := exO_cancel oa oa' ia ia' (fol_close _) (fol_close _) h; clear h; obtain ⟨rfl, h⟩ := h')
    simp only [List.cons.injEq, true_and] at h
    exact ⟨rfl, h⟩

def tailOf (m : Mk) (t e : Blk) (d : Nat) : List UInt8 :=
  if m.kind = 8 then t.text (d + 1) ++ ((if e.len = 0 then [] else line d elseTxt ++ e.text (d + 1)) ++ line d [125])
  else if m.kind = 9 then t.text (d + 1) ++ line d [125] else []
theorem text_cons {m : Mk} (t e r : Blk) {d : Nat} (hd : d ≤ 8) (hk : 1 ≤ m.kind ∧ m.kind ≤ 9) : (Blk.cons m t e r).text d = line d (headOf m) ++ (tailOf m t e d ++ r.text d) := by
  simp only [Blk.text, tailOf]
  rw [if_neg (by omega)]
  by_cases h8 : m.kind = 8
  · simp only [if_pos h8, List.append_assoc]
  · by_cases h9 : m.kind = 9
    · simp only [if_neg h8, if_pos h9, List.append_assoc]
    · simp only [if_neg h8, if_neg h9]
      rw [if_pos (by omega)]; simp
theorem indent_succ (d : Nat) (s : List UInt8) : indent (d + 1) ++ s = indent d ++ 32 :: 32 :: s := by
  have : 2 * (d + 1) = 2 * d + 2 := by omega
  unfold indent
  rw [this, ← List.replicate_append_replicate]; simp [List.replicate]
theorem head_cons {m : Mk} (h : m.proper) : ∃ c r, headOf m = c :: r := by
  have km := kinds h
  obtain ⟨k, r, mo, x, a, b⟩ := m
  simp only at km
  rcases km with rfl | rfl | rfl | rfl | rfl | rfl | rfl | rfl | rfl <;> exact ⟨_, _, rfl⟩
theorem else_form (e : Blk) (d : Nat) (R : List UInt8) : (if e.len = 0 then [] else line d elseTxt ++ e.text (d + 1)) ++ (line d [125] ++ R) =
    indent d ++ 125 :: (if e.len = 0 then 10 :: R else 32 :: 101 :: 108 :: 115 :: 101 :: 32 :: 123 :: 10 :: (e.text (d + 1) ++ (indent d ++ 125 :: 10 :: R))) := by
  by_cases h : e.len = 0
  · simp [h, line]
  · simp [h, line, elseTxt]
theorem no_stmt {m : Mk} (hm : m.proper) (t e r : Blk) {d : Nat} (hd : d + 1 ≤ 8) (s : List UInt8) (R : List UInt8) (h : indent d ++ 125 :: s = (Blk.cons m t e r).text (d + 1) ++ R) : False := by
  rw [text_cons t e r hd (by have := kinds hm; omega)] at h
  simp only [line, List.append_assoc] at h
  rw [indent_succ] at h
  replace h := List.append_cancel_left h
  simp at h
theorem proper_cons {m : Mk} {t e r : Blk} (h : (Blk.cons m t e r).proper) : m.proper ∧ t.proper ∧ e.proper ∧ r.proper ∧ (m.kind ≠ 8 → e = .nil) ∧ (m.kind ≠ 8 → m.kind ≠ 9 → t = .nil) := h
set_option maxHeartbeats 1000000 in
theorem blk_cancel (a : Blk) : ∀ (b : Blk) (d : Nat) (s t : List UInt8), a.proper → b.proper → d + a.deep ≤ 8 → d + b.deep ≤ 8 → a.text (d + 1) ++ (indent d ++ 125 :: s) = b.text (d + 1) ++ (indent d ++ 125 :: t) → a = b ∧ s = t := by
  induction a with
  | nil =>
    intro b d s t _ hb _ db h
    cases b with
    | nil =>
      replace h := List.append_cancel_left (List.append_cancel_left h)
      exact ⟨rfl, by injection h⟩
    | cons m' t' e' r' =>
      have := Blk.deep_pos (Blk.cons m' t' e' r')
      exact (no_stmt (proper_cons hb).1 t' e' r' (by omega) s _ h).elim
  | cons m bt be br iht ihe ihr =>
    intro b d s t ha hb da db h
    obtain ⟨hm, ht, he, hr, hne, hnt⟩ := proper_cons ha
    have dp := Blk.deep_pos (Blk.cons m bt be br)
    cases b with
    | nil => exact (no_stmt hm bt be br (by omega) t _ h.symm).elim
    | cons m' t' e' r' =>
      obtain ⟨hm', ht', he', hr', hne', hnt'⟩ := proper_cons hb
      have km := kinds hm
      have km' := kinds hm'
      rw [text_cons bt be br (by omega) (by omega), text_cons t' e' r' (by omega) (by omega)] at h
      simp only [line, List.append_assoc] at h
      replace h := List.append_cancel_left h
      simp only [List.cons_append, List.nil_append] at h
      (have h' := head_cancel hm hm' h; clear h; obtain ⟨rfl, h⟩ := h')
      have dr : d + br.deep ≤ 8 := by simp only [Blk.deep] at da; omega
      have dr' : d + r'.deep ≤ 8 := by simp only [Blk.deep] at db; omega
      by_cases h8 : m.kind = 8
      · have dt : d + 1 + bt.deep ≤ 8 := by simp only [Blk.deep, if_pos h8] at da; omega
        have de : d + 1 + be.deep ≤ 8 := by simp only [Blk.deep, if_pos h8] at da; omega
        have dt' : d + 1 + t'.deep ≤ 8 := by simp only [Blk.deep, if_pos h8] at db; omega
        have de' : d + 1 + e'.deep ≤ 8 := by simp only [Blk.deep, if_pos h8] at db; omega
        simp only [tailOf, if_pos h8] at h
        simp only [List.append_assoc] at h
        rw [else_form, else_form] at h
        (have h' := iht t' (d + 1) _ _ ht ht' dt dt' h; clear h; obtain ⟨rfl, h⟩ := h')
        by_cases z : be.len = 0
        · by_cases z' : e'.len = 0
          · rw [if_pos z, if_pos z'] at h
            simp only [List.cons.injEq, true_and] at h
            (have h' := ihr r' d _ _ hr hr' dr dr' h; clear h; obtain ⟨rfl, h⟩ := h')
            obtain rfl := Blk.len_zero z
            obtain rfl := Blk.len_zero z'
            exact ⟨rfl, h⟩
          · rw [if_pos z, if_neg z'] at h
            simp at h
        · by_cases z' : e'.len = 0
          · rw [if_neg z, if_pos z'] at h
            simp at h
          · rw [if_neg z, if_neg z'] at h
            simp only [List.cons.injEq, true_and] at h
            (have h' := ihe e' (d + 1) _ _ he he' de de' h; clear h; obtain ⟨rfl, h⟩ := h')
            simp only [List.cons.injEq, true_and] at h
            (have h' := ihr r' d _ _ hr hr' dr dr' h; clear h; obtain ⟨rfl, h⟩ := h')
            exact ⟨rfl, h⟩
      · obtain rfl := hne h8
        obtain rfl := hne' h8
        by_cases h9 : m.kind = 9
        · have dt : d + 1 + bt.deep ≤ 8 := by simp only [Blk.deep, if_neg h8, if_pos h9] at da; omega
          have dt' : d + 1 + t'.deep ≤ 8 := by simp only [Blk.deep, if_neg h8, if_pos h9] at db; omega
          simp only [tailOf, if_neg h8, if_pos h9, line, List.append_assoc, List.cons_append, List.nil_append] at h
          (have h' := iht t' (d + 1) _ _ ht ht' dt dt' h; clear h; obtain ⟨rfl, h⟩ := h')
          simp only [List.cons.injEq, true_and] at h
          (have h' := ihr r' d _ _ hr hr' dr dr' h; clear h; obtain ⟨rfl, h⟩ := h')
          exact ⟨rfl, h⟩
        · obtain rfl := hnt h8 h9
          obtain rfl := hnt' h8 h9
          simp only [tailOf, if_neg h8, if_neg h9, List.nil_append] at h
          (have h' := ihr r' d _ _ hr hr' dr dr' h; clear h; obtain ⟨rfl, h⟩ := h')
          exact ⟨rfl, h⟩
/-- A test whose parts may be, and whose blocks are not too deep. -/
structure Ts.proper (t : Ts) : Prop where
  init : ∀ i ∈ t.init, isLetter i.1
  threads : ∀ b ∈ t.threads, b.proper ∧ b.deep ≤ 8
  some : t.ask.isSome = true
  ask : okO t.ask
/-- What begins with neither. -/
def Begins (p : UInt8 → Bool) (s : List UInt8) : Prop := ∃ c r, s = c :: r ∧ p c = true
theorem inits_cancel : ∀ (l l' : List (Nat × Nat)) (s t : List UInt8), (∀ i ∈ l, isLetter i.1) → (∀ i ∈ l', isLetter i.1) → Begins (fun c => c != 105) s → Begins (fun c => c != 105) t → l.flatMap initTxt ++ s = l'.flatMap initTxt ++ t → l = l' ∧ s = t := by
  intro l
  induction l with
  | nil =>
    intro l' s t _ _ hs _ h
    cases l' with
    | nil => exact ⟨rfl, h⟩
    | cons i l' =>
      obtain ⟨c, r, rfl, hc⟩ := hs
      simp only [List.flatMap_nil, List.flatMap_cons, initTxt, List.nil_append, List.cons_append, List.cons.injEq] at h
      rw [h.1] at hc
      exact absurd hc (by decide)
  | cons i l ih =>
    intro l' s t hl hl' hs ht h
    cases l' with
    | nil =>
      obtain ⟨c, r, rfl, hc⟩ := ht
      simp only [List.flatMap_nil, List.flatMap_cons, initTxt, List.nil_append, List.cons_append, List.cons.injEq] at h
      rw [← h.1] at hc
      exact absurd hc (by decide)
    | cons i' l' =>
      obtain ⟨x, n⟩ := i
      obtain ⟨x', n'⟩ := i'
      simp only [List.flatMap_cons, initTxt, List.cons_append, List.append_assoc, List.cons.injEq, true_and, List.nil_append] at h
      obtain ⟨hx, h⟩ := h
      obtain rfl := letter_inj (hl (x, n) (List.mem_cons_self)) (hl' (x', n') (List.mem_cons_self)) hx
      (have h' := dec_cancel (by rfl) (by rfl) h; clear h; obtain ⟨rfl, h⟩ := h')
      simp only [List.cons.injEq, true_and] at h
      (have h' := ih l' s t (fun j hj => hl j (List.mem_cons_of_mem _ hj)) (fun j hj => hl' j (List.mem_cons_of_mem _ hj)) hs ht h; clear h; obtain ⟨rfl, h⟩ := h')
      exact ⟨rfl, h⟩
theorem threads_cancel : ∀ (l l' : List Blk) (s t : List UInt8), (∀ b ∈ l, b.proper ∧ b.deep ≤ 8) → (∀ b ∈ l', b.proper ∧ b.deep ≤ 8) → Begins (fun c => c != 116) s → Begins (fun c => c != 116) t → l.flatMap threadTxt ++ s = l'.flatMap threadTxt ++ t → l = l' ∧ s = t := by
  intro l
  induction l with
  | nil =>
    intro l' s t _ _ hs _ h
    cases l' with
    | nil => exact ⟨rfl, h⟩
    | cons i l' =>
      obtain ⟨c, r, rfl, hc⟩ := hs
      simp only [List.flatMap_nil, List.flatMap_cons, threadTxt, List.nil_append, List.cons_append, List.cons.injEq] at h
      rw [h.1] at hc
      exact absurd hc (by decide)
  | cons i l ih =>
    intro l' s t hl hl' hs ht h
    cases l' with
    | nil =>
      obtain ⟨c, r, rfl, hc⟩ := ht
      simp only [List.flatMap_nil, List.flatMap_cons, threadTxt, List.nil_append, List.cons_append, List.cons.injEq] at h
      rw [← h.1] at hc
      exact absurd hc (by decide)
    | cons i' l' =>
      simp only [List.flatMap_cons, threadTxt, List.cons_append, List.append_assoc, List.cons.injEq, true_and, List.nil_append] at h
      have h1 := hl i List.mem_cons_self
      have h2 := hl' i' List.mem_cons_self
      have h' := blk_cancel i i' 0 _ _ h1.1 h2.1 (by omega) (by omega) (show i.text 1 ++ (indent 0 ++ 125 :: _) = i'.text 1 ++ (indent 0 ++ 125 :: _) from h)
      clear h
      obtain ⟨rfl, h⟩ := h'
      simp only [List.cons.injEq, true_and] at h
      (have h' := ih l' s t (fun j hj => hl j (List.mem_cons_of_mem _ hj)) (fun j hj => hl' j (List.mem_cons_of_mem _ hj)) hs ht h; clear h; obtain ⟨rfl, h⟩ := h')
      exact ⟨rfl, h⟩
theorem quant_begins (all : Bool) (s : List UInt8) : ∃ c r, quant all ++ s = c :: r ∧ (c = 101 ∨ c = 102) := by
  cases all <;> exact ⟨_, _, rfl, by decide⟩
/-- THE STAGE'S THEOREM, plain: tests whose parts may be, and that are unlike, are written unlike. -/
theorem test_inj {a b : Ts} (ha : a.proper) (hb : b.proper) (h : a.text = b.text) : a = b := by
  obtain ⟨i, th, al, q⟩ := a
  obtain ⟨i', th', al', q'⟩ := b
  have beg : ∀ (l : List Blk) (all : Bool) (s : List UInt8), Begins (fun c => c != 105) (l.flatMap threadTxt ++ (quant all ++ s)) := by
    intro l all s
    cases l with
    | nil =>
      obtain ⟨c, r, e, hc⟩ := quant_begins all s
      exact ⟨c, r, e, by rcases hc with rfl | rfl <;> decide⟩
    | cons b l => exact ⟨116, _, rfl, by decide⟩
  have beg2 : ∀ (all : Bool) (s : List UInt8), Begins (fun c => c != 116) (quant all ++ s) := by
    intro all s
    obtain ⟨c, r, e, hc⟩ := quant_begins all s
    exact ⟨c, r, e, by rcases hc with rfl | rfl <;> decide⟩
  simp only [Ts.text] at h
  (have h' := inits_cancel i i' _ _ ha.init hb.init (beg _ _ _) (beg _ _ _) h; clear h; obtain ⟨rfl, h⟩ := h')
  (have h' := threads_cancel th th' _ _ ha.threads hb.threads (beg2 _ _) (beg2 _ _) h; clear h; obtain ⟨rfl, h⟩ := h')
  have hq : al = al' := by
    cases al <;> cases al'
    · rfl
    · simp [quant] at h
    · simp [quant] at h
    · rfl
  subst hq
  replace h := List.append_cancel_left h
  simp only [List.cons.injEq, true_and] at h
  obtain ⟨rfl, _⟩ := exO_cancel ha.ask hb.ask ha.some hb.some (fol_semi _) (fol_semi _) h
  rfl
end Go.Proofs.YtpdpofoicdijlaaGreatDoor.Prog
