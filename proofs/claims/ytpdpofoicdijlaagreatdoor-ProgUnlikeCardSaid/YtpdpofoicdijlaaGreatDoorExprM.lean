/- Layer 3 (expr): Text, Walk; the expressions that are known. -/
import Derived.Test.YtpdpofoicdijlaaGreatDoorExprL
namespace Go.Proofs.YtpdpofoicdijlaaGreatDoor.Expr
open Go.RowKit Go.Proofs.YtpdpofoicdijlaaGreatDoor.Mem Go.Lib

theorem tleaf_enters : Enters 70 := enters_of Tryz.func70 (by kernel_rfl) rfl
theorem tjoin_enters : Enters 71 := enters_of Tryz.func71 (by kernel_rfl) rfl
theorem text_tells (w0 : World) (hT : Tabs w0) (g : Nat) : Tells (σ := List (List UInt8 × Nat)) 70 71 #[.pointer (some ⟨g, 0, none⟩)] #[] #[.pointer (some ⟨g, 0, none⟩)] #[] textR
    (fun s w => Wr w0 g s w) (fun s e => s.length + e.depth ≤ 100 ∧ e.depth ≤ 12) where
  e1 := tleaf_enters
  e2 := tjoin_enters
  leaf := fun e s w hle ho hb h => tleaf_any w0 hT g e hle ho s (by omega) w h
  one := fun op a s w hop ho hb h => by
    simp only [Ex.depth] at hb
    exact tjoin_one w0 hT g op hop a.text a.strong (by have := text_len12 a ho (by omega); omega) s (by omega) w h
  two := fun op a b s w h1 h2 hoa hob hb h => by
    simp only [Ex.depth] at hb
    exact tjoin_two w0 hT g op h1 h2 a.text b.text a.strong b.strong (by have := text_len12 a hoa (by omega); omega) (by have := text_len12 b hob (by omega); omega) s (by omega) w h
  inOne := fun op a s hb => by simp only [Ex.depth] at hb; omega
  inTwo := fun op a b s hb => by simp only [Ex.depth, textR, List.length_append, List.length_singleton] at hb ⊢; omega

theorem field_letters (a b : Value) (W : World) : (Instr.field 147 (.agg #[a, b]) 0).run Tryz.prog W = .ok a W := by kernel_rfl
theorem textBox_low (w : World) : Below w.heap.size w (w.alloc (.cells #[.slice none 0 0] 142)) := (Below.refl _ _).alloc (Nat.le_refl _) _
theorem textBox_stk (w : World) : TStk w.heap.size w.heap.size (w.alloc (.cells #[.slice none 0 0] 142)) [] := ⟨_, Sits.new _ _ _, Nat.le_refl _, World.ownsRow_nil _ _ _ _⟩
set_option maxRecDepth 100000 in
theorem text_any (e : Ex) (ho : e.ok) (hd : e.depth ≤ 12) (v : Value) (w : World) (hX : Tabs w) (hT : Tree w (treeOf e) v) :
    Calls Tryz.prog 35 #[v] w fun e' w' => Made (.returned (.string (str e.text))) w e' w' := by
  have hb := textBox_low w
  have hI : Wr w w.heap.size [] (w.alloc (.cells #[.slice none 0 0] 142)) := ⟨textBox_stk w, hb⟩
  have HW := Lib.hid (walk_any (text_tells w hX w.heap.size) (fun s w w' h hb => h.grown hb) e [] v _ ho hd ⟨by simp only [List.length_nil]; omega, hd⟩ (hT.below hb) hI)
  have HP := Lib.hid (fun W (h : Wr w w.heap.size (textR e []) W) => (show Wr w w.heap.size ([] ++ [(e.text, e.strong)]) W from h).pop (by simp))
  obtain ⟨p, rfl, _⟩ := hT.ptr
  clear hb hI hT hX
  generalize e.text = tx at *
  generalize e.strong = es at *
  generalize textR e [] = s2 at HP HW
  have hfd := field_letters
  go_enter Tryz.func35, Tryz.ntmps35
  go_wp2_with fail
  change Calls _ _ _ (World.alloc w _) _
  generalize w.alloc (.cells #[.slice none 0 0] 142) = W at HW ⊢
  refine HW.out.mono ?_
  rintro e w1 ⟨rfl, hr, _⟩
  have HR := Lib.hid hr
  have hlt := hr.lt
  clear hr
  go_wp2_with fail
  refine (HP.out _ HR.out).mono ?_
  rintro e w2 ⟨rfl, hq, _⟩
  have HQ := Lib.hid hq.low
  clear hq
  go_wp2_with fail
  go_ret
  exact ⟨rfl, HQ.out⟩
set_option maxRecDepth 100000 in
theorem text_not (t : Tr) (v : Value) (w : World) (hT : Tree w t v) (hf : fitsF t 12 = false) : Calls Tryz.prog 35 #[v] w fun e' w' => Made (.returned (.string ⟨#[]⟩)) w e' w' := by
  have hb := textBox_low w
  have HW := Lib.hid (fun x y => walk_not t x y v (w.alloc (.cells #[.slice none 0 0] 142)) (hT.below hb) hf)
  have HS := Lib.hid (textBox_stk w)
  have HB := Lib.hid hb
  obtain ⟨p, rfl, _⟩ := hT.ptr
  have hz : (w.alloc (.cells #[.slice none 0 0] 142)).heap.size = w.heap.size + 1 := by simp
  have HZ := Lib.hid hz
  clear hT hf hb hz
  have hfd := field_letters
  go_enter Tryz.func35, Tryz.ntmps35
  go_wp2_with fail
  change Calls _ _ _ (World.alloc w _) _
  generalize w.alloc (.cells #[.slice none 0 0] 142) = W at HW HS HB HZ ⊢
  refine (HW.out _ _).mono ?_
  rintro e w1 ⟨rfl, hb⟩
  have HS1 := Lib.hid (HS.out.below hb).in_
  have hlt : w.heap.size < w1.heap.size := by have := hb.size; have := HZ.out; omega
  have HB1 := Lib.hid (HB.out.trans (hb.mono HB.out.size))
  clear hb HZ
  go_wp2_with fail
  refine (tpop_none _ _ _ _ (Nat.le_of_lt hlt) HS1.out).mono ?_
  rintro e w2 ⟨rfl, _, hfr, _⟩
  have HB2 := Lib.hid (HB1.out.trans hfr.low)
  clear hfr
  go_wp2_with fail
  go_ret
  exact ⟨rfl, HB2.out⟩

/-! ### Walk -/
theorem do_nil (F : FuncId) (f c : Array Value) (W : World) : (binOp .neq 144 (.func (.func F) f c) .nilFunc).run Tryz.prog W = .ok (.bool true) W := by
  have h : ∀ d : Nat, (Op.equalIn (d + 1) 144 (.func (.func F) f c) .nilFunc).run Tryz.prog W = .ok false W := fun d => by
    simp [Op.equalIn, run_underlying Tryz.underlying144]
  simp only [binOp]
  simp [Op.equal, Op.maxDepth, h 9999]
end Go.Proofs.YtpdpofoicdijlaaGreatDoor.Expr
