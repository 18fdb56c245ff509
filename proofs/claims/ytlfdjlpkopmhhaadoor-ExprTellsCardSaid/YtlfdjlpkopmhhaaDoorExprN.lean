/- Layer 3 (expr): the expressions that are known. -/
import Derived.Test.YtlfdjlpkopmhhaaDoorExprM
namespace Go.Proofs.YtlfdjlpkopmhhaaDoor.Expr
open Go.RowKit Go.Proofs.YtlfdjlpkopmhhaaDoor.Mem Go.Lib

def wakeAll : Ex := .two 9 (.two 5 (.num 1) (.reg 0)) (.num 2)
def wakeSum : Ex := .two 5 (.num 1) (.reg 0)
def at_ (g : Nat) : Value := .pointer (some ⟨g, 0, none⟩)
def box (a : It) (l r : Value) : Obj := .cells (exprCells a l r) 38
def wakeW (w : World) : World :=
  ((((w.alloc (box ⟨0, 0, 1, 0, 0, 0⟩ (.pointer none) (.pointer none))).alloc (box ⟨1, 0, 0, 0, 0, 0⟩ (.pointer none) (.pointer none))).alloc (box ⟨5, 5, 0, 0, 0, 0⟩ (at_ w.heap.size) (at_ (w.heap.size + 1)))).alloc
    (box ⟨0, 0, 2, 0, 0, 0⟩ (.pointer none) (.pointer none))).alloc (box ⟨5, 9, 0, 0, 0, 0⟩ (at_ (w.heap.size + 2)) (at_ (w.heap.size + 3)))
theorem sits_box (w : World) (g : Nat) (hg : g = w.heap.size) (a : It) (l r : Value) : Sits (w.alloc (box a l r)) g 38 (exprCells a l r) := Sits.made hg _ _
theorem wake_low (w : World) : Below w.heap.size w (wakeW w) :=
  (((((Below.refl _ w).alloc (Nat.le_refl _) _).alloc (by simp) _).alloc (by simp; omega) _).alloc (by simp; omega) _).alloc (by simp; omega) _
theorem wake_size (w : World) : (wakeW w).heap.size = w.heap.size + 5 := by simp [wakeW]
theorem wake_sum (w : World) : Tree (wakeW w) (treeOf wakeSum) (at_ (w.heap.size + 2)) :=
  ⟨_, _, _, rfl, (((sits_box _ (w.heap.size + 2) (by simp) _ _ _).alloc _).alloc _),
    ⟨_, _, _, rfl, (((((sits_box _ w.heap.size (by simp) _ _ _).alloc _).alloc _).alloc _).alloc _), rfl, rfl⟩,
    ⟨_, _, _, rfl, ((((sits_box _ (w.heap.size + 1) (by simp) _ _ _).alloc _).alloc _).alloc _), rfl, rfl⟩⟩
theorem wake_all (w : World) : Tree (wakeW w) (treeOf wakeAll) (at_ (w.heap.size + 4)) :=
  ⟨_, _, _, rfl, sits_box _ (w.heap.size + 4) (by simp) _ _ _, wake_sum w, ⟨_, _, _, rfl, ((sits_box _ (w.heap.size + 3) (by simp) _ _ _).alloc _), rfl, rfl⟩⟩
theorem wake_text : str wakeAll.text = ⟨#[40, 49, 32, 43, 32, 114, 48, 41, 32, 42, 32, 50]⟩ := by kernel_rfl
theorem wakes1_enters : Enters 36 := enters_of Tryd.func36 (by kernel_rfl) rfl
theorem wakes1_any (a : It) (w : World) : Calls Tryd.prog 36 #[.agg (exprCells a (.pointer none) (.pointer none))] w fun e' w' => Made (.returned (.int .u64 20)) w e' w' := by
  obtain ⟨q, op, n, t, i, x⟩ := a
  unfold exprCells
  simp only
  go_enter Tryd.func36, Tryd.ntmps36
  go_wp2_with fail
  go_ret
  exact ⟨rfl, (Below.refl _ _).alloc (Nat.le_refl _) _⟩
def wakeLf : Unit → Ex → Int × Unit := fun _ _ => (20, ())
theorem wake_leafs (B : Nat) : Leafs (κ := Unit) 36 #[] #[] B [] (fun _ _ => True) wakeLf (fun _ _ => True) where
  enters := wakes1_enters
  keep := fun _ _ _ _ _ => trivial
  call := fun e k w _ _ _ hB _ => (wakes1_any (leafIt e) w).mono fun e' w' h => ⟨h.1, trivial, Fr.below h.2 hB⟩
  u64 := fun _ _ => ⟨show (0 : Int) ≤ 20 by decide, show (20 : Int) < 18446744073709551616 by decide⟩
  inOne := fun _ _ _ _ => trivial
  inTwo := fun _ _ _ _ _ => ⟨trivial, trivial⟩
  aE := by simp
  aV := by simp
  aU := by simp
  aF := by simp
theorem wake_value : (wakeAll.value wakeLf ()).1 = 42 := by kernel_rfl
theorem wake_ok : wakeAll.ok := ⟨by decide, by decide, ⟨by decide, by decide, by show 1 < 18446744073709551616; decide, by show 0 < 8; decide⟩, by show 2 < 18446744073709551616; decide⟩
set_option maxRecDepth 100000 in
theorem wakes_any (w : World) (hX : Tabs w) : Calls Tryd.prog 17 #[] w fun e w' => Made (.returned (.bool true)) w e w' := by
  have hz := wake_size w
  have HE := Lib.hid (eval_any (wake_leafs (w.heap.size + 5)) wakeAll wake_ok (by decide) () trivial (at_ (w.heap.size + 4)) (wakeW w) (by omega) (wake_all w) trivial)
  rw [wake_value] at HE
  have HK := Lib.hid (fun W (h : Below (w.heap.size + 5) (wakeW w) W) => (show Below w.heap.size w W from (wake_low w).trans (h.mono (by omega))))
  have HT := Lib.hid (fun W (h : Below (w.heap.size + 5) (wakeW w) W) => (show Calls _ _ _ _ fun e' w' => Made (.returned (.string ⟨#[40, 49, 32, 43, 32, 114, 48, 41, 32, 42, 32, 50]⟩)) W e' w' from wake_text ▸ text_any wakeAll wake_ok (by decide) _ W (hX.below (HK.out W h)) ((wake_all w).below (hz ▸ h))))
  have HD := Lib.hid (fun W (h : Below (w.heap.size + 5) (wakeW w) W) => (show Calls _ _ _ _ fun e' w' => Made (.returned (.int .i64 3)) W e' w' from Depth_any (treeOf wakeAll) _ W ((wake_all w).below (hz ▸ h))))
  have HM := Lib.hid (fun W (h : Below (w.heap.size + 5) (wakeW w) W) => (show Calls _ _ _ _ fun e' w' => Made (.returned (.bool true)) W e' w' from may_any (treeOf wakeAll) _ W ((wake_all w).below (hz ▸ h))))
  have HS := Lib.hid (fun W (h : Below (w.heap.size + 5) (wakeW w) W) => (show Calls _ _ _ _ fun e' w' => Made (.returned (.bool true)) W e' w' from Same_any (treeOf wakeAll) (treeOf wakeAll) _ _ W ((wake_all w).below (hz ▸ h)) ((wake_all w).below (hz ▸ h))))
  have HN := Lib.hid (fun W (h : Below (w.heap.size + 5) (wakeW w) W) => (show Calls _ _ _ _ fun e' w' => Made (.returned (.bool false)) W e' w' from Same_any (treeOf wakeAll) (treeOf wakeSum) _ _ W ((wake_all w).below (hz ▸ h)) ((wake_sum w).below (hz ▸ h))))
  have HL := Lib.hid (fun (W W' : World) (h : Below (w.heap.size + 5) (wakeW w) W) (h' : Below W.heap.size W W') => (show Below (w.heap.size + 5) (wakeW w) W' from h.trans (h'.mono (by have := h.size; omega))))
  unfold at_ at HE HT HD HM HS HN
  clear hX hz
  go_enter Tryd.func17, Tryd.ntmps17
  go_wp2_with fail
  change Calls _ _ _ (wakeW w) _
  generalize wakeW w = W at HE HK HT HD HM HS HN HL ⊢
  refine HE.out.mono ?_
  rintro e w1 ⟨rfl, _, hf⟩
  have H1 := Lib.hid hf.low
  clear hf
  go_wp2_with fail
  refine (HT.out _ H1.out).mono ?_
  rintro e w2 ⟨rfl, hb⟩
  have H2 := Lib.hid (HL.out _ _ H1.out hb)
  clear hb
  go_wp2_with fail
  refine (HD.out _ H2.out).mono ?_
  rintro e w3 ⟨rfl, hb⟩
  have H3 := Lib.hid (HL.out _ _ H2.out hb)
  clear hb
  go_wp2_with fail
  refine (HM.out _ H3.out).mono ?_
  rintro e w4 ⟨rfl, hb⟩
  have H4 := Lib.hid (HL.out _ _ H3.out hb)
  clear hb
  go_wp2_with fail
  refine (HS.out _ H4.out).mono ?_
  rintro e w5 ⟨rfl, hb⟩
  have H5 := Lib.hid (HL.out _ _ H4.out hb)
  clear hb
  go_wp2_with fail
  refine (HN.out _ H5.out).mono ?_
  rintro e w6 ⟨rfl, hb⟩
  have H6 := Lib.hid (HL.out _ _ H5.out hb)
  clear hb
  go_wp2_with fail
  go_ret
  exact ⟨rfl, HK.out _ H6.out⟩
end Go.Proofs.YtlfdjlpkopmhhaaDoor.Expr
