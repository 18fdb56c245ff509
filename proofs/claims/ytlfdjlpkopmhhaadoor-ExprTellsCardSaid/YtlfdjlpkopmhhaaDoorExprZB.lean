/- Layer 3 (expr): all leaves of an expression are told in ExprTells as its row has them. -/
import Derived.Test.YtlfdjlpkopmhhaaDoorExprZ
import Derived.Test.YtlfdjlpkopmhhaaDoorExprM
namespace Go.Proofs.YtlfdjlpkopmhhaaDoor.Expr
open Go.RowKit Go.Proofs.YtlfdjlpkopmhhaaDoor.Mem Go.Lib

theorem check_enters : Enters 29 := enters_of Tryd.func29 (by kernel_rfl) rfl
theorem leaves_one {e : Ex} (he : e.isLeaf = true) : e.leaves = [e] := by cases e <;> first | rfl | cases he
section
variable (W1 : World) (aB oB rB : Nat) (rv : Value) (is : List It) (hrB : Sits W1 rB 30 #[rv]) (hra : rB ≠ aB) (hro : rB ≠ oB) (hao : aB ≠ oB)
  (HR : ∀ w, Keeps (fun b => b = aB ∨ b = oB) W1 w → Row w rv is) (hlen : is.length ≤ 60) (hok : ∀ (j : Nat) (a : It), is[j]? = some a → leafOk a = true)
include hrB hra hro hao HR hlen hok
theorem check_tells : Tells (σ := Nat) 29 50 #[] #[.pointer (some ⟨aB, 0, none⟩), .pointer (some ⟨rB, 0, none⟩), .pointer (some ⟨oB, 0, none⟩)] #[] #[]
    (fun e j => j + e.leaves.length) (fun j w => Chk W1 aB oB j w) (fun j e => e.leaves <+: (is.map leafE).drop j) where
  e1 := check_enters
  e2 := walk1_enters
  leaf := fun e j w he ho hB hI => by
    show Calls Tryd.prog 29 #[leafVal e, .pointer (some ⟨aB, 0, none⟩), .pointer (some ⟨rB, 0, none⟩), .pointer (some ⟨oB, 0, none⟩)] w (Done (Chk W1 aB oB (j + e.leaves.length)) w)
    rw [leaves_one he] at hB ⊢
    obtain ⟨a, ha, rfl⟩ : ∃ a, is[j]? = some a ∧ leafE a = e := by
      obtain ⟨r, hr⟩ := hB
      have h1 : ((is.map leafE).drop j)[0]? = some e := by rw [← hr]; rfl
      rw [List.getElem?_drop, List.getElem?_map, Nat.add_zero] at h1
      cases h2 : is[j]? with
      | none => rw [h2] at h1; cases h1
      | some a => rw [h2] at h1; exact ⟨a, rfl, Option.some.inj h1⟩
    exact check_one W1 aB oB rB rv is hrB hra hro hao HR hlen j a ha (hok j a ha) w hI
  one := fun op a j w hop hoa hB hI => (walk1_any op w).mono (by rintro e' w' ⟨rfl, rfl⟩; exact ⟨rfl, hI, Stable.refl _ _⟩)
  two := fun op a b j w h1 h2 hoa hob hB hI => (walk1_any op w).mono (by
    rintro e' w' ⟨rfl, rfl⟩
    refine ⟨rfl, ?_, Stable.refl _ _⟩
    show Chk W1 aB oB (j + (a.leaves ++ b.leaves).length) _
    rw [List.length_append, ← Nat.add_assoc]
    exact hI)
  inOne := fun op a j h => h
  inTwo := fun op a b j h => by
    obtain ⟨r, hr⟩ := h
    change a.leaves ++ b.leaves ++ r = _ at hr
    refine ⟨⟨b.leaves ++ r, by rw [← List.append_assoc]; exact hr⟩, ⟨r, ?_⟩⟩
    show b.leaves ++ r = (is.map leafE).drop (j + a.leaves.length)
    rw [← List.drop_drop, ← hr, List.append_assoc, List.drop_left]
end
/-- What holds behind the walk over all leaves. -/
theorem walk_check {l : List It} {m : Nat} {x : Ex} (hs : Sp l 0 x m) (ox : x.ok) (dx : x.depth ≤ 12) (hm : m ≤ 60) (W1 : World) (aB oB rB B : Nat) (rv : Value) (sa : Sits W1 aB 3 #[.int .i64 (0 : Nat)]) (so : Sits W1 oB 4 #[.bool true])
    (sr : Sits W1 rB 30 #[rv]) (own : W1.ownsRow B 50 6 rv (its l m).length (itemCells (its l m))) (v : Value) (hT : Tree W1 (treeOf x) v) :
    Calls Tryd.prog 28 #[v, .func (.func 29) #[] #[.pointer (some ⟨aB, 0, none⟩), .pointer (some ⟨rB, 0, none⟩), .pointer (some ⟨oB, 0, none⟩)]] W1 (Done (Chk W1 aB oB (its l m).length) W1) := by
  have hlen : (its l m).length ≤ 60 := Nat.le_trans (its_len l m) hm
  have hR : ∀ w, Keeps (fun b => b = aB ∨ b = oB) W1 w → Row w rv (its l m) := fun w hk => by
    have hst : Stable 50 W1 w := Stable.keeps hk (fun b cs hb => by
      rintro (rfl | rfl)
      · exact hb.differ sa (by decide) rfl
      · exact hb.differ so (by decide) rfl)
    exact row_of_own (by omega) (own_stable own hst)
  have hT' := check_tells W1 aB oB rB rv (its l m) sr (sr.differ sa (by decide)) (sr.differ so (by decide)) (sa.differ so (by decide)) hR hlen (fun j a ha => its_ok hs ha)
  have h := Walk_any hT' (fun s w w' h hb => h.grown hb) x 0 v W1 ox dx (by rw [its_map hs, List.drop_zero]; exact List.prefix_refl _) hT ⟨sa, so, Keeps.refl _ _⟩
  have e : (its l m).length = 0 + x.leaves.length := by rw [← its_map hs, List.length_map, Nat.zero_add]
  rw [e]
  exact h
end Go.Proofs.YtlfdjlpkopmhhaaDoor.Expr
