/- Layer 1 (num): how an operation is written: the program's table, and the document's own list. -/
import Derived.Test.YtpdpofoicdijlaaGreatDoorNumB
import Derived.Lib.LaidTab
import Derived.Laws.Tables
namespace Go.Proofs.YtpdpofoicdijlaaGreatDoor.Num
open Go.RowKit

/-- A table of texts as a row lists it. -/
def strData {H : Type} (zs : List (List UInt8)) : DataW H := .agg (zs.map fun z => .lit (.string z))
def bytesOf (z : List UInt8) : ByteArray := ⟨z.toArray⟩
abbrev strVal (z : List UInt8) : Value := .string (bytesOf z)
def StrIs (P : Program) (w : World) (name : String) (zs : List (List UInt8)) : Prop := w.var? P name = some (zs.map strVal).toArray

theorem cells_of_strs {H : Type} {enc : TypeId × Value → H} {P : Program} {w : World} {base : Nat} {sp : Nat → Bool} {held : Bool} {fuel : Nat} {t e : TypeId} {n : Nat} {cs : List Value} {zs : List (List UInt8)} {p : List MemPlace}
    (ht : P.underlying t = some (.array n e)) (he : P.underlying e = some .string) (hce : P.cellsOf e = 1) (hct : P.cellsOf t = n)
    (h : DataW.trod enc P w base sp held fuel t cs = some (strData zs, p)) : cs = zs.map strVal := by
  cases fuel with
  | zero => simp [DataW.trod] at h
  | succ fuel =>
    simp only [DataW.trod, ht, hce, hct, Nat.mul_one] at h
    split at h
    · rename_i hl
      obtain ⟨xs, hm, hx⟩ := Option.map_eq_some_iff.1 h
      have hxs : xs.map (·.1) = zs.map fun z => (DataW.lit (.string z) : DataW H) := by
        have := congrArg Prod.fst hx
        simpa [strData] using this
      have hxl : xs.length = n := by simpa using Lib.mapM_length hm
      have hzl : zs.length = n := by
        have := congrArg List.length hxs
        simp at this
        omega
      apply List.ext_getElem?
      intro i
      by_cases hi : i < n
      · obtain ⟨b, hb, hf⟩ := Lib.mapM_at hm i i (by simp [hi])
        obtain ⟨s, hc, rfl, _⟩ := DataW.trod_string he hf
        have h1 : cs[i]? = some (.string s) := by
          have := congrArg (·[0]?) hc
          simpa [List.getElem?_take, List.getElem?_drop] using this
        have h2 : (xs.map (·.1))[i]? = some (DataW.lit (.string s.data.toList) : DataW H) := by simp [hb]
        rw [hxs] at h2
        simp only [List.getElem?_map, Option.map_eq_some_iff, DataW.lit.injEq, Lit.string.injEq] at h2
        obtain ⟨z', hz', rfl⟩ := h2
        simp [h1, hz', bytesOf]
      · rw [List.getElem?_eq_none (by omega), List.getElem?_eq_none (by simp; omega)]
    · cases h
theorem strIs_of_head {P : Program} {W : World} {name : String} {zs : List (List UInt8)} {rest : List (String × DataW Unit)} {g : Nat} {t e : TypeId} {n : Nat}
    (hg : P.globalNamed name = some g) (hty : (P.globals[g]?).map (·.type) = some t) (ht : P.underlying t = some (.array n e)) (he : P.underlying e = some .string) (hce : P.cellsOf e = 1) (hct : P.cellsOf t = n)
    (h : laidMet P ((name, strData zs) :: rest) W) : StrIs P W name zs := by
  obtain ⟨ps, ⟨g', t', cs, fuel, p, q, hg', ht', hvar, hd, _, _⟩, _⟩ := h
  obtain rfl := Option.some.inj (hg.symm.trans hg')
  obtain rfl := Option.some.inj (hty.symm.trans ht')
  unfold StrIs
  rw [hvar, ← cells_of_strs ht he hce hct hd]
theorem StrIs.cell {P : Program} {W : World} {name : String} {zs : List (List UInt8)} {g : Nat} (h : StrIs P W name zs) (hg : P.globalNamed name = some g) (i : Nat) (hi : i < zs.length) :
    W.cell? ⟨g, i, none⟩ = some (strVal (zs.getD i [])) := by
  have := World.var?_cell hg h i
  simpa [List.getD, hi] using this

/-- The texts, in the order of the operations' numbers. -/
def texts : List (List UInt8) := [[], [61, 61], [33, 61], [60], [60, 61], [43], [45], [124], [94], [42], [47], [37], [38], [33], [45]]
def textF (op : Int) : List UInt8 := texts.getD op.toNat []
theorem textF_none (op : Int) (h : 15 ≤ op) : textF op = [] := by
  unfold textF; rw [List.getD_eq_getElem?_getD, List.getElem?_eq_none (by simp [texts]; omega)]; rfl

/-- The program's table lies as its text lays it. -/
def TextsAt (w : World) : Prop := 2 < w.heap.size ∧ ∀ i : Nat, i < 15 → w.cell? ⟨2, i, none⟩ = some (strVal (texts.getD i []))
theorem TextsAt.below {w w' : World} (h : TextsAt w) (hb : Below w.heap.size w w') : TextsAt w' :=
  ⟨Nat.lt_of_lt_of_le h.1 hb.size, fun i hi => (hb.cell (p := ⟨2, i, none⟩) h.1).trans (h.2 i hi)⟩
theorem text_any (op : Int) (h0 : 0 ≤ op) (h1 : op ≤ 255) (w : World) (hT : TextsAt w) :
    Calls Tryz.prog 120 #[.int .u8 op] w fun e w' => e = .returned (strVal (textF op)) ∧ w = w' := by
  by_cases h : 15 ≤ op
  · have HT := Lib.hid (textF_none op h)
    go_enter Tryz.func120, Tryz.ntmps120
    go_wp2
    go_ret
    exact ⟨by rw [HT.out]; rfl, rfl⟩
  · have hcell := hT.2 op.toNat (by omega)
    have HT : Hid (textF op = texts.getD op.toNat []) := Lib.hid rfl
    go_enter Tryz.func120, Tryz.ntmps120
    go_wp2
    go_ret
    exact ⟨by rw [HT.out, List.getD_eq_getElem?_getD]; rfl, rfl⟩

theorem rtext_val (op : Int) (h : op.toNat < (texts.map strVal).length) : (texts.map strVal)[op.toNat]'h = strVal (textF op) := by
  unfold textF
  rw [List.getElem_map, List.getD_eq_getElem?_getD, List.getElem?_eq_getElem (by simpa using h)]; rfl
theorem rtext_any (op : Int) (h0 : 0 ≤ op) (h1 : op ≤ 255) (w : World) :
    Calls Tryz.prog 99 #[.int .u8 op] w fun e w' => e = .returned (strVal (textF op)) ∧ Below w.heap.size w w' := by
  by_cases h : 15 ≤ op
  · have HT := Lib.hid (textF_none op h)
    go_enter Tryz.func99, Tryz.ntmps99
    go_wp2
    go_ret
    exact ⟨by rw [HT.out]; rfl, (Below.refl _ _).alloc (Nat.le_refl _) _⟩
  · have hl : op.toNat < (texts.map strVal).length := by simp [texts]; omega
    have HT := Lib.hid (rtext_val op hl)
    go_enter Tryz.func99, Tryz.ntmps99
    go_wp2
    go_ret
    exact ⟨congrArg Ending.returned HT.out, (Below.refl _ _).alloc (Nat.le_refl _) _⟩
theorem b2_u64 (b : Bool) : 0 ≤ b2 b ∧ b2 b < 18446744073709551616 := by cases b <;> decide
end Go.Proofs.YtpdpofoicdijlaaGreatDoor.Num
