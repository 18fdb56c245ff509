/- Layer 3 (expr): what a row's expression comes to, as the document itself reckons it. -/
import Derived.Test.YtpdpofoicdijlaaGreatDoorExprF
import Derived.Test.YtpdpofoicdijlaaGreatDoorNumD
namespace Go.Proofs.YtpdpofoicdijlaaGreatDoor.Expr
open Go.RowKit Go.Proofs.YtpdpofoicdijlaaGreatDoor.Mem Go.Lib

/-- A row of numbers of 64 bits. -/
def URow (w : World) (v : Value) (u : List Nat) : Prop :=
  (u = [] ∧ ∃ p cap, v = .slice p 0 cap) ∨ ∃ g o cap, v = .slice (some ⟨g, o, none⟩) u.length cap ∧ u.length ≤ 1000000 ∧ ∀ i a, u[i]? = some a → w.cell? ⟨g, o + i, none⟩ = some (.int .u64 (a : Nat))
theorem URow.below {w w' : World} {v : Value} {u : List Nat} (h : URow w v u) (hb : Below w.heap.size w w') : URow w' v u := by
  rcases h with h | ⟨g, o, cap, hv, hl, h⟩
  · exact .inl h
  · exact .inr ⟨g, o, cap, hv, hl, fun i a ha => (hb.cell (p := ⟨g, o + i, none⟩) (World.block_lt_of_cell? w _ (h i a ha))).trans (h i a ha)⟩
theorem URow.len {w : World} {v : Value} {u : List Nat} (h : URow w v u) : ∃ p cap, v = .slice p u.length cap ∧ u.length ≤ 1000000 := by
  rcases h with ⟨rfl, p, cap, hv⟩ | ⟨g, o, cap, hv, hl, _⟩
  · exact ⟨p, cap, hv, by simp⟩
  · exact ⟨_, cap, hv, hl⟩
theorem URow.item {w : World} {v : Value} {u : List Nat} (h : URow w v u) {i : Nat} {a : Nat} (ha : u[i]? = some a) : ∃ g o cap, v = .slice (some ⟨g, o, none⟩) u.length cap ∧ u.length ≤ 1000000 ∧ i < u.length ∧ w.cell? ⟨g, o + i, none⟩ = some (.int .u64 (a : Nat)) := by
  have hi := (List.getElem?_eq_some_iff.1 ha).1
  rcases h with ⟨rfl, _⟩ | ⟨g, o, cap, hv, hl, h⟩
  · simp at hi
  · exact ⟨g, o, cap, hv, hl, hi, h i a ha⟩

def oneI (op : Nat) (a : Int) : Int := Num.oneF op a
def twoI (op : Nat) (a b : Int) : Int := Num.doF op a b
def U64 (a : Int) : Prop := 0 ≤ a ∧ a < 18446744073709551616
/-- What it comes to, where a leaf is told by lf. -/
def Ex.value {κ : Type} (lf : κ → Ex → Int × κ) (e : Ex) (k : κ) : Int × κ := e.val oneI twoI lf k
theorem value_u64 {κ : Type} {lf : κ → Ex → Int × κ} (hlf : ∀ k e, U64 (lf k e).1) (e : Ex) (he : e.ok) (k : κ) : U64 (e.value lf k).1 := by
  unfold Ex.value
  induction e generalizing k with
  | num n => have h : n < 18446744073709551616 := he; exact ⟨by show (0 : Int) ≤ (n : Int); omega, by show (n : Int) < 18446744073709551616; omega⟩
  | one op a ih => exact Num.oneF_bd _ _
  | two op a b iha ihb =>
    have h1 := iha he.2.2.1 k
    have h2 := ihb he.2.2.2 (a.val oneI twoI lf k).2
    exact Num.doF_bd _ _ _ h1.1 h1.2 h2.1 h2.2
  | _ => exact hlf _ _
/-- Leaves that are told by a row of numbers, one behind the other. -/
def told (u : List Nat) (n : Nat) (_ : Ex) : Int × Nat := (((u.getD n 0 : Nat) : Int), n + 1)

section
variable (l : List It) (u : List Nat) (k n : Nat) (v uv : Value) (w : World)
end
theorem told_u64 {u : List Nat} (hu : ∀ a ∈ u, a < 18446744073709551616) (k : Nat) (e : Ex) : U64 (told u k e).1 := by
  unfold told
  rw [List.getD_eq_getElem?_getD]
  cases h : u[k]? with
  | none => exact ⟨by simp, by simp⟩
  | some a => have := hu a (List.mem_of_getElem? h); refine ⟨by simp, ?_⟩; simp only [Option.getD_some]; omega
theorem told_next (u : List Nat) : ∀ (e : Ex) (n : Nat), (e.value (told u) n).2 ≤ n + e.size := by
  intro e
  unfold Ex.value
  induction e with
  | num a => intro n; simp [Ex.val, Ex.size]
  | one op a ih => intro n; have := ih n; simp only [Ex.val, Ex.size]; omega
  | two op a b iha ihb => intro n; have h1 := iha n; have h2 := ihb (a.val oneI twoI (told u) n).2; simp only [Ex.val, Ex.size]; omega
  | _ => intro n; simp [Ex.val, Ex.size, told]
end Go.Proofs.YtpdpofoicdijlaaGreatDoor.Expr
