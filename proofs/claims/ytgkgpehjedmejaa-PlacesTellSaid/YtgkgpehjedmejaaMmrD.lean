/- Layer 11 (memory): may; the closures of Add and find; find. -/
import Derived.Test.YtgkgpehjedmejaaMmrC
namespace Go.Proofs.Ytgkgpehjedmejaa.Mmr
open Go.RowKit Go.Proofs.Ytgkgpehjedmejaa.Mem Go.Proofs.Ytgkgpehjedmejaa.Flow

/-! ### May it come to be there -/
def itOf (x : It) : It := ⟨x.loc, x.a, x.b, 0, Vew.zeroF, true, x.owner⟩
abbrev bareCells (x : It) : Array Value := #[.int .i64 x.loc, .complex .f64 (fw x.a) (fw x.b), .int .u64 0, .int .i64 0, .int .i64 0, .int .i64 0, .int .i64 0, .int .i64 0, .int .i64 0, .int .i64 0, .int .i64 0, .bool true, .int .i64 x.owner]
theorem bare_same (x : It) (h : x.res = true) : sameI x (itOf x) = bareI x := by
  simp [sameI, itOf, bareI, h]
  rfl
theorem zero_span {x : It} (h : FitI x) : (FloatKind.f64.format.order (fw x.a) 0 == some .eq && FloatKind.f64.format.order (fw x.b) 0 == some .eq) = decide (x.a = 0 ∧ x.b = 0) := by
  rw [Spn.order_same (fw_is h.1) Spn.is_0, Spn.order_same (fw_is h.2) Spn.is_0, Bool.decide_and]
theorem fit_wd {x : It} (h : FitI x) : Spn.Wd (fw x.a) x.a ∧ Spn.Wd (fw x.b) x.b := ⟨.inl ⟨fw_is h.1, h.1⟩, .inl ⟨fw_is h.2, h.2⟩⟩
theorem mayI_eq (m : Mm) (x : It) (b1 b2 b3 b4 b5 b6 b7 : Bool) (h1 : hasF m x.loc = b1) (h2 : decide (-1 ≤ x.owner) = b2) (h3 : decide (x.owner < 4) = b3) (h4 : Spn.mayF x.a x.b = b4) (h5 : decide (x.a = 0 ∧ x.b = 0) = b5) (h6 : Vew.mayF x.v = b6) (h7 : bareI x = b7) :
    mayI m x = (b1 && b2 && b3 && b4 && !b5 && b6 && b7) := by unfold mayI; rw [h1, h2, h3, h4, h5, h6, h7]
/-- What may works on. -/
structure MayAt (w : World) (p : Nat → Option Addr) (c : Nat → Nat) (m : Mm) (x : It) (W : World) : Prop where
  at2 : Sits W w.heap.size 28 (memCells p c m)
  at3 : Sits W (w.heap.size + 1) 52 (itCells x)
  at5 : Sits W (w.heap.size + 1 + 1) 52 (bareCells x)
  low : Below w.heap.size w W
theorem MayAt.grown {w W W' : World} {p : Nat → Option Addr} {c : Nat → Nat} {m : Mm} {x : It} (h : MayAt w p c m x W) (hb : Below W.heap.size W W') : MayAt w p c m x W' :=
  ⟨h.at2.below hb h.at2.lt, h.at3.below hb h.at3.lt, h.at5.below hb h.at5.lt, h.low.trans (hb.mono h.low.size)⟩
set_option maxRecDepth 100000 in
set_option maxHeartbeats 2000000 in
theorem may_any (p : Nat → Option Addr) (c : Nat → Nat) (m : Mm) (x : It) (hx : FitI x) (w : World) :
    Calls Try.prog 27 #[memV p c m, itV x] w (Made (.returned (.bool (mayI m x))) w) := by
  have hz := zero_span hx
  obtain ⟨hwa, hwb⟩ := fit_wd hx
  have HA := Lib.hid hwa
  have HB' := Lib.hid hwb
  have HE : Hid (∀ W, (binOp .eql 52 (itV x) (.agg (bareCells x))).run Try.prog W = .ok (.bool (sameI x (itOf x))) W) := Lib.hid (eql_it x (itOf x) hx hx)
  have HBR := Lib.hid (bare_same x)
  have HM := Lib.hid (mayI_eq m x)
  have HQ : Hid (MayAt w p c m x (((w.alloc (.cells (memCells p c m) 28)).alloc (.cells (itCells x) 52)).alloc (.cells (bareCells x) 52))) := Lib.hid
    ⟨((Sits.new _ _ _).alloc _).alloc _, (Sits.made (by simp) _ _).alloc _, Sits.made (by simp) _ _, Vew.below3 _ _ _ _⟩
  clear hwa hwb hx
  go_enter Try.func27, Try.ntmps27
  go_wp2_with fail
  generalize (((w.alloc (.cells (memCells p c m) 28)).alloc (.cells (itCells x) 52)).alloc (.cells (bareCells x) 52)) = w0 at HQ ⊢
  refine (has_any p c m x.loc w0).mono ?_
  rintro e w1 ⟨rfl, hb⟩
  have HQ1 := Lib.hid (HQ.out.grown hb)
  clear hb HQ
  obtain ⟨c0, c1, c2, c3, c4, c5, c6, c7, c8, c9, c10, c11, c12⟩ := itAt_sits HQ1.out.at3
  have l3 := HQ1.out.at3.lt
  cases h1 : hasF m x.loc
  · have HR := Lib.hid (HM.out _ _ _ _ _ _ _ h1 rfl rfl rfl rfl rfl rfl)
    clear h1
    go_wp2_with fail
    go_ret
    exact ⟨ret_bool (by rw [HR.out]; rfl), HQ1.out.low⟩
  cases h2 : decide (-1 ≤ x.owner)
  · have HR := Lib.hid (HM.out _ _ _ _ _ _ _ h1 h2 rfl rfl rfl rfl rfl)
    have k2 : ¬ (-1 ≤ x.owner) := of_decide_eq_false h2
    clear h1 h2
    go_wp2_with fail
    go_ret
    exact ⟨ret_bool (by rw [HR.out]; rfl), HQ1.out.low⟩
  have k2 : (-1 ≤ x.owner) := of_decide_eq_true h2
  cases h3 : decide (x.owner < 4)
  · have HR := Lib.hid (HM.out _ _ _ _ _ _ _ h1 h2 h3 rfl rfl rfl rfl)
    have k3 : ¬ (x.owner < 4) := of_decide_eq_false h3
    clear h1 h2 h3
    go_wp2_with fail
    go_ret
    exact ⟨ret_bool (by rw [HR.out]; rfl), HQ1.out.low⟩
  have k3 : (x.owner < 4) := of_decide_eq_true h3
  have H1 := Lib.hid h1
  have H2 := Lib.hid h2
  have H3 := Lib.hid h3
  clear h1 h2 h3
  go_wp2_with fail
  refine (Spn.may_any HA.out HB'.out _).mono ?_
  rintro e w2 ⟨rfl, rfl⟩
  cases h4 : Spn.mayF x.a x.b
  · have HR := Lib.hid (HM.out _ _ _ _ _ _ _ H1.out H2.out H3.out h4 rfl rfl rfl)
    clear h4
    go_wp2_with fail
    go_ret
    exact ⟨ret_bool (by rw [HR.out]; rfl), HQ1.out.low⟩
  have H4 := Lib.hid h4
  clear h4
  cases h5 : decide (x.a = 0 ∧ x.b = 0)
  rotate_left
  · have HR := Lib.hid (HM.out _ _ _ _ _ _ _ H1.out H2.out H3.out H4.out h5 rfl rfl)
    rw [h5] at hz
    clear h5
    go_wp2_with fail
    go_ret
    exact ⟨ret_bool (by rw [HR.out]; rfl), HQ1.out.low⟩
  have H5 := Lib.hid h5
  rw [h5] at hz
  clear h5
  go_wp2_with fail
  refine (Vew.may_any x.v _).mono ?_
  rintro e w2 ⟨rfl, hb⟩
  have HQ2 := Lib.hid (HQ1.out.grown hb)
  clear hb HQ1 c0 c1 c2 c3 c4 c5 c6 c7 c8 c9 c10 c11 c12 l3
  obtain ⟨c0, c1, c2, c3, c4, c5, c6, c7, c8, c9, c10, c11, c12⟩ := itAt_sits HQ2.out.at3
  have l3 := HQ2.out.at3.lt
  cases h6 : Vew.mayF x.v
  · have HR := Lib.hid (HM.out _ _ _ _ _ _ _ H1.out H2.out H3.out H4.out H5.out h6 rfl)
    clear h6
    go_wp2_with fail
    go_ret
    exact ⟨ret_bool (by rw [HR.out]; rfl), HQ2.out.low⟩
  have HR := Lib.hid (HM.out _ _ _ _ _ _ _ H1.out H2.out H3.out H4.out H5.out h6 rfl)
  clear h6
  cases h7 : x.res
  · have HBI := Lib.hid (show bareI x = true by simp [bareI, h7])
    rw [h7] at c11
    go_wp2_with fail
    go_ret
    exact ⟨ret_bool (by rw [HR.out, HBI.out]; rfl), HQ2.out.low⟩
  have HBI := Lib.hid (HBR.out h7)
  rw [h7] at c11
  have l5 := HQ2.out.at5.lt
  have d0 : w2.cell? ⟨w.heap.size + 1 + 1, 0, none⟩ = some (.int .i64 x.loc) := HQ2.out.at5.cell 0
  have d1 : w2.cell? ⟨w.heap.size + 1 + 1, 1, none⟩ = some (.complex .f64 (fw x.a) (fw x.b)) := HQ2.out.at5.cell 1
  have d2 : w2.cell? ⟨w.heap.size + 1 + 1, 2, none⟩ = some (.int .u64 0) := HQ2.out.at5.cell 2
  have d3 : w2.cell? ⟨w.heap.size + 1 + 1, 3, none⟩ = some (.int .i64 0) := HQ2.out.at5.cell 3
  have d4 : w2.cell? ⟨w.heap.size + 1 + 1, 4, none⟩ = some (.int .i64 0) := HQ2.out.at5.cell 4
  have d5 : w2.cell? ⟨w.heap.size + 1 + 1, 5, none⟩ = some (.int .i64 0) := HQ2.out.at5.cell 5
  have d6 : w2.cell? ⟨w.heap.size + 1 + 1, 6, none⟩ = some (.int .i64 0) := HQ2.out.at5.cell 6
  have d7 : w2.cell? ⟨w.heap.size + 1 + 1, 7, none⟩ = some (.int .i64 0) := HQ2.out.at5.cell 7
  have d8 : w2.cell? ⟨w.heap.size + 1 + 1, 8, none⟩ = some (.int .i64 0) := HQ2.out.at5.cell 8
  have d9 : w2.cell? ⟨w.heap.size + 1 + 1, 9, none⟩ = some (.int .i64 0) := HQ2.out.at5.cell 9
  have d10 : w2.cell? ⟨w.heap.size + 1 + 1, 10, none⟩ = some (.int .i64 0) := HQ2.out.at5.cell 10
  have d11 : w2.cell? ⟨w.heap.size + 1 + 1, 11, none⟩ = some (.bool true) := HQ2.out.at5.cell 11
  have d12 : w2.cell? ⟨w.heap.size + 1 + 1, 12, none⟩ = some (.int .i64 x.owner) := HQ2.out.at5.cell 12
  have hq : ∀ W, (binOp .eql 52 (itV x) (.agg (bareCells x))).run Try.prog W = .ok (.bool (bareI x)) W := fun W => by rw [← HBI.out]; exact HE.out W
  have hgd : ∀ u v W, (eqGuard .eql 52 u v (itV x) (.agg (bareCells x))).run Try.prog W = .ok () W := fun u v W => guard_it .eql u v x (itOf x) W
  simp only [itV, itCells, h7] at hq hgd
  clear h7
  go_wp2_with fail
  go_ret
  exact ⟨ret_bool (by rw [HR.out]; cases bareI x <;> rfl), HQ2.out.low⟩
end Go.Proofs.Ytgkgpehjedmejaa.Mmr
