/- Layer 2 (lex): words for memory, and the contracts of the leaves: a byte's kind, the closure that tells bytes. -/
import Derived.Test.YtfmopeldhgfpoaaLexS
import Derived.Test.YtfmopeldhgfpoaaRows
import Derived.WalkKit
import Derived.WalkLawsBesides
import Derived.WalkMore
import Derived.Scope
import Derived.ScopeJumps
import Derived.Outline
import Derived.Lib.Hide
import Derived.Lib.Bytealg
import Derived.LoopTactic
import Derived.Below
import Derived.BigRegion
import Derived.RegionTactic
import Derived.StillTailTactics
namespace Go.Proofs.Ytfmopeldhgfpoaa.Lex
open Go.RowKit

/-- Block g is just these cells, none frozen. -/
def Sits (w : World) (g : Nat) (t : TypeId) (cs : Array Value) : Prop := w.heap[g]? = some (.cells cs t (0, 0))
/-- But for the blocks of X the world is as it was. -/
structure Keeps (X : Nat → Prop) (w w' : World) : Prop where
  os : w'.os = w.os
  tape : w'.tape = w.tape
  output : w'.output = w.output
  size : w.heap.size ≤ w'.heap.size
  block : ∀ b, b < w.heap.size → ¬ X b → w'.heap[b]? = w.heap[b]?

section
variable {w w' w'' : World} {g : Nat} {t : TypeId} {cs : Array Value} {X Y : Nat → Prop}
theorem Sits.lt (h : Sits w g t cs) : g < w.heap.size := lt_of_block h
theorem Sits.cell (h : Sits w g t cs) (i : Nat) : w.cell? ⟨g, i, none⟩ = cs[i]? := cell_of_row w g i cs t (0, 0) h
theorem Sits.free (h : Sits w g t cs) (i : Nat) : w.frozen? ⟨g, i, none⟩ = false := by
  unfold Sits at h; simp [World.frozen?, h]
theorem Sits.keep (h : Sits w g t cs) (k : Keeps X w w') (hn : ¬ X g) : Sits w' g t cs := (k.block g h.lt hn).trans h
theorem Sits.alloc (h : Sits w g t cs) (o : Obj) : Sits (w.alloc o) g t cs := (Below.heap_alloc w o g h.lt).trans h
theorem Sits.new (w : World) (t : TypeId) (cs : Array Value) : Sits (w.alloc (.cells cs t)) w.heap.size t cs := heap_alloc_new w _
theorem Sits.made (hg : g = w.heap.size) (t : TypeId) (cs : Array Value) : Sits (w.alloc (.cells cs t)) g t cs := by rw [hg]; exact Sits.new w t cs
theorem Sits.drew (h : Sits w g t cs) : Sits w.drew g t cs := h
theorem Sits.put (h : Sits w g t cs) (i : Nat) (u : Value) : Sits (w.setCell ⟨g, i, none⟩ u) g t (cs.setIfInBounds i u) := by
  unfold Sits at h ⊢; simp [World.setCell, Array.getElem?_modify, h]
theorem Sits.far (h : Sits w g t cs) {p : Addr} (hp : g ≠ p.block) (u : Value) : Sits (w.setCell p u) g t cs := (Below.heap_setCell w p u g hp).trans h
theorem Sits.below {B : Nat} (h : Sits w g t cs) (hb : Below B w w') (hg : g < B) : Sits w' g t cs := (hb.block g hg).trans h
theorem Sits.grown {row : Option Nat} (h : Sits w g t cs) (hb : w.grownBy w' row) (hg : row ≠ some g) : Sits w' g t cs := (hb.block g h.lt (fun e => hg e.symm)).trans h
theorem Sits.differ {g' : Nat} {t' : TypeId} {cs' : Array Value} (h : Sits w g t cs) (h' : Sits w g' t' cs') (hne : t ≠ t') : g ≠ g' := by
  rintro rfl
  unfold Sits at h h'
  rw [h] at h'
  injection h' with h'
  injection h' with _ ht
  exact hne ht

theorem Keeps.refl (X : Nat → Prop) (w : World) : Keeps X w w := ⟨rfl, rfl, rfl, Nat.le_refl _, fun _ _ _ => rfl⟩
theorem Keeps.trans (h : Keeps X w w') (k : Keeps X w' w'') : Keeps X w w'' :=
  ⟨k.os.trans h.os, k.tape.trans h.tape, k.output.trans h.output, Nat.le_trans h.size k.size, fun b hb hn => (k.block b (Nat.lt_of_lt_of_le hb h.size) hn).trans (h.block b hb hn)⟩
theorem Keeps.wider (h : Keeps X w w') (hx : ∀ b, b < w.heap.size → X b → Y b) : Keeps Y w w' :=
  ⟨h.os, h.tape, h.output, h.size, fun b hb hn => h.block b hb (fun hb' => hn (hx b hb hb'))⟩
theorem Keeps.drew (h : Keeps X w w') : Keeps X w w'.drew := ⟨h.os, h.tape, h.output, h.size, h.block⟩
theorem Keeps.alloc (h : Keeps X w w') (o : Obj) : Keeps X w (w'.alloc o) :=
  h.trans ⟨rfl, rfl, rfl, by simp, fun b hb _ => Below.heap_alloc _ _ _ hb⟩
theorem Keeps.put (h : Keeps X w w') {p : Addr} (hp : X p.block ∨ w.heap.size ≤ p.block) (u : Value) : Keeps X w (w'.setCell p u) :=
  ⟨h.os, h.tape, h.output, by simpa [World.setCell] using h.size, fun b hb hn => (Below.heap_setCell _ _ _ _ (by
    rintro rfl
    rcases hp with hp | hp
    · exact hn hp
    · omega)).trans (h.block b hb hn)⟩
theorem below_keeps {B : Nat} (h : Below B w w') : Keeps (fun b => B ≤ b) w w' := ⟨h.os, h.tape, h.output, h.size, fun b _ hn => h.block b (by omega)⟩
theorem behind {B : Nat} {a : World} (h : Below B a w) (k : Keeps X w w') (hB : B ≤ w.heap.size) (hx : ∀ b, X b → B ≤ b) : Below B a w' :=
  h.trans ⟨k.os, k.tape, k.output, k.size, fun b hb => k.block b (by omega) (fun hb' => by have := hx b hb'; omega)⟩
end

theorem ret_bool {a b : Bool} (h : a = b) : Ending.returned (.bool a) = .returned (.bool b) := by rw [h]

/-- A byte of a text, 0 behind its end. -/
def byt (s : ByteArray) (k : Nat) : UInt8 := s.data.toList.getD k 0
def bAt (s : ByteArray) (k : Nat) : Int := (byt s k).toNat
def endAt (s : ByteArray) (k : Nat) : Bool := decide (k = s.size)
def lineAt (s : ByteArray) (k : Nat) : Int := (pl s.data.toList k).1
def colAt (s : ByteArray) (k : Nat) : Int := (pl s.data.toList k).2
theorem bAt_bd (s : ByteArray) (k : Nat) : 0 ≤ bAt s k ∧ bAt s k < 256 := by
  have := (byt s k).toNat_lt
  unfold bAt; omega
theorem byt_in (s : ByteArray) (k : Nat) (h : k < s.size) : s[k] = byt s k := by
  have hl : k < s.data.toList.length := h
  unfold byt
  rw [List.getD_eq_getElem?_getD, List.getElem?_eq_getElem hl]; rfl
theorem byt_out (s : ByteArray) (k : Nat) (h : s.size ≤ k) : byt s k = 0 := by
  have hl : s.data.toList.length ≤ k := h
  unfold byt
  rw [List.getD_eq_getElem?_getD, List.getElem?_eq_none hl]; rfl
theorem bAt_in (s : ByteArray) (k : Nat) (h : k < s.size) : (s[k].toNat : Int) = bAt s k := by unfold bAt; rw [byt_in s k h]
theorem bAt_out (s : ByteArray) (k : Nat) (h : s.size ≤ k) : bAt s k = 0 := by unfold bAt; rw [byt_out s k h]; rfl
theorem place_bd (s : ByteArray) (k : Nat) : 1 ≤ lineAt s k ∧ lineAt s k ≤ k + 1 ∧ 1 ≤ colAt s k ∧ colAt s k ≤ k + 1 := by
  have := pl_bd s.data.toList k
  unfold lineAt colAt; omega
theorem line_nl (s : ByteArray) (k : Nat) (h : k < s.size) (hb : bAt s k = 10) : lineAt s (k + 1) = lineAt s k + 1 ∧ colAt s (k + 1) = 1 := by
  have hl : k < s.data.toList.length := h
  have hc : byt s k = 10 := by unfold bAt at hb; exact UInt8.toNat_inj.1 (by have : (10 : UInt8).toNat = 10 := rfl; omega)
  have e := pl_succ s.data.toList k hl
  have e' : s.data.toList.getD k 0 = 10 := hc
  rw [e'] at e
  unfold lineAt colAt; rw [e]; simp [step1]
theorem line_go (s : ByteArray) (k : Nat) (h : k < s.size) (hb : ¬ bAt s k = 10) : lineAt s (k + 1) = lineAt s k ∧ colAt s (k + 1) = colAt s k + 1 := by
  have hl : k < s.data.toList.length := h
  have hc : ¬ byt s k = 10 := by intro e; apply hb; unfold bAt; rw [e]; rfl
  have e := pl_succ s.data.toList k hl
  have e' : (s.data.toList.getD k 0 == 10) = false := by simpa [byt] using hc
  unfold step1 at e
  rw [e'] at e
  unfold lineAt colAt; rw [e]; simp

/-- What is told of byte k. -/
def tellCells (s : ByteArray) (k : Nat) : Array Value := #[.int .u8 (bAt s k), .bool (endAt s k), .int .i64 k, .int .i64 (lineAt s k), .int .i64 (colAt s k)]
def nextAt (s : ByteArray) (k : Nat) : Nat := if k < s.size then k + 1 else k

theorem digit_any (s : ByteArray) (k : Nat) (w : World) :
    Calls Try.prog 11 #[.int .u8 (bAt s k)] w fun e w' => e = .returned (.bool (isD (byt s k))) ∧ w = w' := by
  have e : isD (byt s k) = (decide (48 ≤ bAt s k) && decide (bAt s k ≤ 57)) := by
    unfold isD bAt; congr 1 <;> (simp; omega)
  rw [e]; clear e
  have b0 := (bAt_bd s k).1
  generalize bAt s k = b at *
  by_cases h : 48 ≤ b
  all_goals
    by_cases h' : b ≤ 57
    all_goals
      go_enter Try.func11, Try.ntmps11
      go_wp2
      go_ret
      exact ⟨ret_bool (by simp [h, h']), rfl⟩
theorem letter_any (s : ByteArray) (k : Nat) (w : World) :
    Calls Try.prog 12 #[.int .u8 (bAt s k)] w fun e w' => e = .returned (.bool (isL (byt s k))) ∧ w = w' := by
  have e : isL (byt s k) = (decide (97 ≤ bAt s k) && decide (bAt s k ≤ 122)) := by
    unfold isL bAt; congr 1 <;> (simp; omega)
  rw [e]; clear e
  have b0 := (bAt_bd s k).1
  generalize bAt s k = b at *
  by_cases h : 97 ≤ b
  all_goals
    by_cases h' : b ≤ 122
    all_goals
      go_enter Try.func12, Try.ntmps12
      go_wp2
      go_ret
      exact ⟨ret_bool (by simp [h, h']), rfl⟩
theorem bAt_eq (s : ByteArray) (k n : Nat) (hn : n < 256) : decide (bAt s k = (n : Int)) = (byt s k == n.toUInt8) := by
  have e : (bAt s k = (n : Int)) ↔ (byt s k = n.toUInt8) := by
    unfold bAt
    constructor
    · intro h
      apply UInt8.toNat_inj.1
      have : n.toUInt8.toNat = n := by simp; omega
      omega
    · intro h; rw [h]
      have : n.toUInt8.toNat = n := by simp; omega
      omega
  simp only [e]; rfl
theorem bAt_beq (s : ByteArray) (k n : Nat) (hn : n < 256) : (bAt s k == (n : Int)) = (byt s k == n.toUInt8) := by
  rw [← bAt_eq s k n hn]; exact Bool.eq_iff_iff.2 (by simp)
theorem blank_no {s : ByteArray} {k : Nat} (h : isB (byt s k) = false) : (bAt s k == 32) = false ∧ (bAt s k == 9) = false ∧ (bAt s k == 10) = false := by
  have h1 := bAt_beq s k 32 (by omega); have h2 := bAt_beq s k 9 (by omega); have h3 := bAt_beq s k 10 (by omega)
  unfold isB at h
  simp only [Bool.or_eq_false_iff] at h
  exact ⟨h1.trans h.1.1, h2.trans h.1.2, h3.trans h.2⟩
theorem blank_yes {s : ByteArray} {k : Nat} (h : isB (byt s k) = true) :
    (bAt s k == 32) = true ∨ ((bAt s k == 32) = false ∧ (bAt s k == 9) = true) ∨ ((bAt s k == 32) = false ∧ (bAt s k == 9) = false ∧ (bAt s k == 10) = true) := by
  have h1 := bAt_beq s k 32 (by omega); have h2 := bAt_beq s k 9 (by omega); have h3 := bAt_beq s k 10 (by omega)
  unfold isB at h
  rw [← show (bAt s k == 32) = (byt s k == 32) from h1, ← show (bAt s k == 9) = (byt s k == 9) from h2, ← show (bAt s k == 10) = (byt s k == 10) from h3] at h
  cases e1 : (bAt s k == 32) <;> cases e2 : (bAt s k == 9) <;> cases e3 : (bAt s k == 10) <;> simp [e1, e2, e3] at h ⊢
theorem hash_is (s : ByteArray) (k : Nat) : (bAt s k == 35) = (byt s k == 35) := bAt_beq s k 35 (by omega)
theorem nl_not (s : ByteArray) (k : Nat) : (bAt s k != 10) = isR (byt s k) := by
  have h := bAt_beq s k 10 (by omega)
  unfold isR bne
  exact congrArg _ h
theorem grows_any (s : ByteArray) (k : Nat) (w : World) :
    Calls Try.prog 14 #[.int .u8 (bAt s k)] w fun e w' => e = .returned (.bool (grows (byt s k))) ∧ w = w' := by
  have e : grows (byt s k) = (decide (bAt s k = 61) || decide (bAt s k = 33) || decide (bAt s k = 60)) := by
    have h1 := bAt_eq s k 61 (by omega); have h2 := bAt_eq s k 33 (by omega); have h3 := bAt_eq s k 60 (by omega)
    unfold grows
    exact congr (congrArg _ (congr (congrArg _ h1.symm) h2.symm)) h3.symm
  rw [e]; clear e
  generalize bAt s k = b
  by_cases h : b = 61
  · subst h
    go_enter Try.func14, Try.ntmps14
    go_wp2
    go_ret
    exact ⟨rfl, rfl⟩
  by_cases h' : b = 33
  · subst h'
    go_enter Try.func14, Try.ntmps14
    go_wp2
    go_ret
    exact ⟨rfl, rfl⟩
  by_cases h'' : b = 60
  · subst h''
    go_enter Try.func14, Try.ntmps14
    go_wp2
    go_ret
    exact ⟨rfl, rfl⟩
  go_enter Try.func14, Try.ntmps14
  go_wp2
  go_ret
  exact ⟨ret_bool (by simp [h, h', h'']), rfl⟩

theorem inner_any (t : ByteArray) (b : Int) (w : World) :
    Calls Try.prog 21 #[.string t, .int .u8 b] w fun e w' => e = .returned (.int .i64 (Lib.indexByte t.data.toList b.toNat.toUInt8)) ∧ w = w' := by
  go_enter Try.func21, Try.ntmps21
  go_wp2
  rw [run_callFunc_extern Try.func22 (by kernel_rfl) (by kernel_rfl) (by kernel_rfl) (e := Extern.BytealgIndexByte.indexByte) (by kernel_rfl), Lib.run_indexByteString]
  simp only [Result.andThen]
  rw [Oper.upon_value]
  go_wp2
  go_ret
  exact ⟨rfl, rfl⟩
theorem indexByte_in (l : List UInt8) (c : UInt8) : 0 ≤ Lib.indexByte l c ↔ c ∈ l := by
  induction l with
  | nil => simp [Lib.indexByte]
  | cons b r ih =>
    have hg := Lib.indexByte_ge r c
    by_cases h : b = c
    · subst h; simp [Lib.indexByte]
    · have h' : (b == c) = false := by simpa using h
      have h'' : ¬ c = b := fun e => h e.symm
      by_cases hr : Lib.indexByte r c = -1
      · have hn : ¬ c ∈ r := fun hm => by have := ih.2 hm; omega
        simp [Lib.indexByte, h', hr, h'', hn]
      · have hr' : (Lib.indexByte r c == -1) = false := by simpa using hr
        have hm : c ∈ r := ih.1 (by omega)
        simp only [Lib.indexByte, h', hr', Bool.false_eq_true, if_false, List.mem_cons, hm, or_true, iff_true]
        omega
theorem sign_any (s : ByteArray) (k : Nat) (w : World) :
    Calls Try.prog 13 #[.int .u8 (bAt s k)] w fun e w' => e = .returned (.bool (isS (byt s k))) ∧ w = w' := by
  have hc : (bAt s k).toNat.toUInt8 = byt s k := by unfold bAt; simp
  have e : isS (byt s k) = decide (0 ≤ Lib.indexByte (ByteArray.mk #[61, 33, 60, 43, 45, 124, 94, 42, 47, 37, 38, 40, 41, 123, 125, 44, 59, 58]).data.toList (bAt s k).toNat.toUInt8) := by
    rw [hc]
    have := indexByte_in signs (byt s k)
    unfold isS
    exact decide_eq_decide.2 this.symm
  rw [e]; clear e hc
  go_enter Try.func13, Try.ntmps13
  go_wp2_with (first | (go_at_call 21; refine (inner_any _ _ _).mono ?_; rintro e w' ⟨rfl, rfl⟩) | go_in)
  go_ret
  exact ⟨rfl, rfl⟩

def tellMade (s : ByteArray) (k T I A : Nat) (w w' : World) (e : Ending) : Prop :=
  e = .returned (.agg #[.int .u8 (bAt s k), .bool (endAt s k), .int .i64 k, .int .i64 (lineAt s k), .int .i64 (colAt s k)]) ∧ Sits w' T 9 #[.string s] ∧ Sits w' I 3 #[.int .i64 (nextAt s k)] ∧ Sits w' A 25 #[.int .i64 (lineAt s (nextAt s k)), .int .i64 (colAt s (nextAt s k))] ∧ Keeps (fun b => b = I ∨ b = A) w w'

theorem tellRes : Try.f19.results = #[.cell 3 42] := by kernel_rfl
set_option maxHeartbeats 1000000 in
/-- The closure tells the byte at k, and goes on; at the end it tells the end, however often. -/
theorem tell_any (s : ByteArray) (k T I A : Nat) (w : World) (hs : s.size ≤ 1048576) (hk : k ≤ s.size) (hT : Sits w T 9 #[.string s]) (hI : Sits w I 3 #[.int .i64 k])
    (hA : Sits w A 25 #[.int .i64 (lineAt s k), .int .i64 (colAt s k)]) :
    Calls Try.prog 19 #[.pointer (some ⟨I, 0, none⟩), .pointer (some ⟨T, 0, none⟩), .pointer (some ⟨A, 0, none⟩)] w fun e w' => tellMade s k T I A w w' e := by
  have cT := hT.cell 0
  have cI := hI.cell 0
  have fI := hI.free 0
  have cA0 := hA.cell 0
  have cA1 := hA.cell 1
  have fA0 := hA.free 0
  have fA1 := hA.free 1
  have hTI : T ≠ I := hT.differ hI (by decide)
  have hTA : T ≠ A := hT.differ hA (by decide)
  have hIA : I ≠ A := hI.differ hA (by decide)
  have lT := hT.lt
  have lI := hI.lt
  have lA := hA.lt
  have hp := place_bd s k
  simp only [List.getElem?_toArray, List.getElem?_cons_zero, List.getElem?_cons_succ] at cT cI cA0 cA1
  by_cases hlt : k < s.size
  · have hb := bAt_in s k hlt
    have he : endAt s k = false := by simp [endAt]; omega
    have e : nextAt s k = k + 1 := by simp [nextAt, hlt]
    have HE := Lib.hid he; clear he
    have HN := Lib.hid e; clear e
    by_cases hn : bAt s k = 10
    · have HL := Lib.hid (line_nl s k hlt hn)
      go_enter Try.func19, Try.ntmps19
      go_wp2
      go_region
      go_wp2
      refine bodyPost_ret (v := .agg (tellCells s k)) (by simp [results, go_sem, tellCells, HE.out, hn]) rfl ⟨rfl, ?_, ?_, ?_, ?_⟩
      · exact ((((((hT.far hTI _).far hTA _).far hTA _).far hTA _).alloc _).alloc _).drew
      · rw [HN.out]
        exact ((((((hI.put 0 _).far hIA _).far hIA _).far hIA _).alloc _).alloc _).drew
      · rw [HN.out, HL.out.1, HL.out.2]
        exact ((((((hA.far (Ne.symm hIA) _).put 1 _).put 0 _).put 1 _).alloc _).alloc _).drew
      · exact ((((((Keeps.refl _ _).put (.inl (.inl rfl)) _).put (.inl (.inr rfl)) _).put (.inl (.inr rfl)) _).put (.inl (.inr rfl)) _).alloc _).alloc _ |>.drew
    · have HL := Lib.hid (line_go s k hlt hn)
      go_enter Try.func19, Try.ntmps19
      go_wp2
      go_region
      go_wp2
      refine bodyPost_ret (v := .agg (tellCells s k)) (by simp [results, go_sem, tellCells, HE.out]) rfl ⟨rfl, ?_, ?_, ?_, ?_⟩
      · exact ((((hT.far hTI _).far hTA _).alloc _).alloc _).drew
      · rw [HN.out]
        exact ((((hI.put 0 _).far hIA _).alloc _).alloc _).drew
      · rw [HN.out, HL.out.1, HL.out.2]
        exact ((((hA.far (Ne.symm hIA) _).put 1 _).alloc _).alloc _).drew
      · exact ((((Keeps.refl _ _).put (.inl (.inl rfl)) _).put (.inl (.inr rfl)) _).alloc _).alloc _ |>.drew
  · obtain rfl : k = s.size := by omega
    have hb := bAt_out s s.size (Nat.le_refl _)
    go_enter Try.func19, Try.ntmps19
    go_wp2
    have e : nextAt s s.size = s.size := by simp [nextAt]
    refine bodyPost_ret (v := .agg (tellCells s s.size)) (by simp [results, go_sem, tellCells, endAt, hb]) rfl ⟨rfl, hT.alloc _, by rw [e]; exact hI.alloc _, by rw [e]; exact hA.alloc _, (Keeps.refl _ _).alloc _⟩

def tellerMade (s : ByteArray) (w w' : World) (e : Ending) : Prop :=
  ∃ T I A : Nat, e = .returned (.func (.func 19) #[] #[.pointer (some ⟨I, 0, none⟩), .pointer (some ⟨T, 0, none⟩), .pointer (some ⟨A, 0, none⟩)]) ∧ w.heap.size ≤ T ∧ w.heap.size ≤ I ∧ w.heap.size ≤ A ∧
    Sits w' T 9 #[.string s] ∧ Sits w' I 3 #[.int .i64 0] ∧ Sits w' A 25 #[.int .i64 1, .int .i64 1] ∧ Below w.heap.size w w'
theorem teller_any (s : ByteArray) (w : World) : Calls Try.prog 10 #[.string s] w fun e w' => tellerMade s w w' e := by
  go_enter Try.func10, Try.ntmps10
  go_wp2
  go_ret
  refine ⟨w.heap.size, w.heap.size + 1, w.heap.size + 1 + 1, rfl, by omega, by omega, by omega, ((Sits.new _ _ _).alloc _).alloc _, (Sits.made (by simp) _ _).alloc _, Sits.made (by simp) _ _, ?_⟩
  exact (((Below.refl _ _).alloc (by omega) _).alloc (by simp) _).alloc (by simp; omega) _
end Go.Proofs.Ytfmopeldhgfpoaa.Lex
