/- Layer 11 (memory): the document's At, and whether a view may be. -/
import Derived.Test.YtgkgpehjedmejaaMmrY
namespace Go.Proofs.Ytgkgpehjedmejaa.Mmr
open Go.RowKit Go.Proofs.Ytgkgpehjedmejaa.Mem Go.Proofs.Ytgkgpehjedmejaa.Flow

abbrev zeroRt : Array Value := #[.int .i64 0, .int .i64 0, .int .i64 0, .int .u64 0, .int .i64 0, .int .i64 0, .int .i64 0, .int .i64 0, .int .i64 0, .int .i64 0, .int .i64 0, .int .i64 0, .bool false, .int .i64 0]
def zeroX : It := ⟨0, 0, 0, 0, Vew.zeroF, false, 0⟩
theorem zeroX_eq : rtCells zeroX = zeroRt := rfl
theorem rtSize : (Try.prog.info? 60).map (·.size) = some 14 := by kernel_rfl
theorem rt_one (x : It) : (rtCells x).all (·.oneCell') = true := by simp [rtCells, Value.oneCell']
theorem zeroRt_one : zeroRt.all (·.oneCell') = true := by simp [Value.oneCell']
def rtO : Option It → Value
  | some x => rtV x
  | none => .agg zeroRt
/-- One of the document's items came back, or none. -/
def GivesD (r : Option It) (w : World) : Ending → World → Prop := Made (.returned (.tuple #[rtO r, .bool r.isSome])) w
structure DAt (w : World) (q : Option Addr) (c : Nat) (m : Dm) (z : Array Value) (W : World) : Prop where
  at3 : Sits W w.heap.size 30 (dmCells q c m)
  at6 : Sits W (w.heap.size + 1) 60 z
  low : Below w.heap.size w W
theorem DAt.grown {w W W' : World} {q : Option Addr} {c : Nat} {m : Dm} {z : Array Value} (h : DAt w q c m z W) (hb : Below W.heap.size W W') : DAt w q c m z W' :=
  ⟨h.at3.below hb h.at3.lt, h.at6.below hb h.at6.lt, h.low.trans (hb.mono h.low.size)⟩
theorem find_hitD {φ : It → Bool} {l : List It} {k : Nat} {x : It} (hx : l[k]? = some x) (h : φ x = true) (hb : ∀ j y, j < k → l[j]? = some y → φ y = false) : l.find? φ = some x := by
  rw [List.find?_eq_some_iff_getElem]
  obtain ⟨hk, rfl⟩ := List.getElem?_eq_some_iff.1 hx
  exact ⟨h, k, hk, rfl, fun j hj => by rw [hb j _ hj (List.getElem?_eq_getElem (by omega))]; rfl⟩
theorem find_offD {φ : It → Bool} {l : List It} (h : ∀ j y, j < l.length → l[j]? = some y → φ y = false) : l.find? φ = none :=
  List.find?_eq_none.2 fun x hx => by
    obtain ⟨j, hj⟩ := List.mem_iff_getElem?.1 hx
    rw [h j x (List.getElem?_eq_some_iff.1 hj).1 hj]; simp
def atD (loc te : Int) (y : It) : Bool := decide (y.loc = loc) && decide (y.b = te) && !y.res
theorem three (b1 b2 b3 : Bool) : b1 = false ∨ (b1 = true ∧ (b2 = false ∨ (b2 = true ∧ (b3 = true ∨ b3 = false)))) := by
  cases b1 <;> cases b2 <;> cases b3 <;> simp
theorem atD_no {loc te : Int} {x : It} (h : (x.loc == loc) = false ∨ (x.b == te) = false ∨ x.res = true) : atD loc te x = false := by
  unfold atD
  rcases h with h | h | h <;> (try simp at h) <;> simp [h]
/-! ### Whether a view may be -/
abbrev dvwV (v : Nat → Int) : Value := Vew.vewV v
def rightTo (v : Nat → Int) (k : Nat) : Prop := ∀ i, i < k → 0 ≤ v i ∧ v i ≤ v (4 + i)
theorem right_yes {v : Nat → Int} (h : rightTo v 4) : rightF v = true := List.all_eq_true.2 fun i hi => by
  have := h i (List.mem_range.1 hi)
  rw [Bool.and_eq_true, decide_eq_true_eq, decide_eq_true_eq]; exact this
theorem right_no {v : Nat → Int} {i : Nat} (hi : i < 4) (h : v i < 0 ∨ v (4 + i) < v i) : rightF v = false := by
  rw [← Bool.not_eq_true]
  intro hc
  have := List.all_eq_true.1 hc i (List.mem_range.2 hi)
  rw [Bool.and_eq_true, decide_eq_true_eq, decide_eq_true_eq] at this
  omega
set_option maxRecDepth 100000 in
set_option maxHeartbeats 2000000 in
theorem right_any (v : Nat → Int) (w : World) : Calls Try.prog 34 #[Vew.vewV v] w (Made (.returned (.bool (rightF v))) w) := by
  have HB := Lib.hid (one_low w (.cells (Vew.vewCells v) 58))
  have HS := Lib.hid (Sits.new w 58 (Vew.vewCells v))
  go_enter Try.func34, Try.ntmps34
  go_upto_region 1 with (fail)
  generalize w.alloc (.cells (Vew.vewCells v) 58) = w0 at HB HS ⊢
  go_wp2_with fail
  go_loopg [3] 4 (fun gg v3 wx => ∃ k, k ≤ 4 ∧ gg = 4 - k ∧ v3 = .int .i64 (k : Nat) ∧ Hid (rightTo v k) ∧ Hid (Below w0.heap.size w0 wx))
  case atStart => exact ⟨0, by omega, by omega, rfl, Lib.hid (fun j h => by omega), Lib.hid (Below.refl _ _)⟩
  case round =>
    obtain ⟨k, hk, rfl, rfl, HF, HW⟩ := hrel
    have HS2 := Lib.hid (HS.out.below HW.out HS.out.lt)
    by_cases hlt : k < 4
    · have b0 : wr.cell? ⟨w.heap.size, k, none⟩ = some (.int .i64 (v k)) := by
        have := HS2.out.cell k
        obtain rfl | rfl | rfl | rfl : k = 0 ∨ k = 1 ∨ k = 2 ∨ k = 3 := by omega
        all_goals exact this
      have b1 : wr.cell? ⟨w.heap.size, 4 + k, none⟩ = some (.int .i64 (v (4 + k))) := by
        have := HS2.out.cell (4 + k)
        obtain rfl | rfl | rfl | rfl : k = 0 ∨ k = 1 ∨ k = 2 ∨ k = 3 := by omega
        all_goals exact this
      have lb := HS2.out.lt
      have j1 : (k : Int) < 4 := by omega
      have j0 : (0 : Int) ≤ (k : Int) := by omega
      have HK := Lib.hid hlt
      clear hk hlt
      by_cases h1 : v k < 0
      · have HR := Lib.hid (right_no HK.out (.inl h1))
        go_wp2_with fail
        go_quiet (fail)
        go_wp2_with fail
        go_ret
        exact ⟨ret_bool HR.out.symm, HB.out.trans ((drewN_below HW.out _).mono HB.out.size)⟩
      by_cases h2 : v (4 + k) < v k
      · have HR := Lib.hid (right_no HK.out (.inr h2))
        go_wp2_with fail
        go_quiet (fail)
        go_wp2_with fail
        go_ret
        exact ⟨ret_bool HR.out.symm, HB.out.trans ((drewN_below HW.out _).mono HB.out.size)⟩
      have HR : Hid (rightTo v (k + 1)) := Lib.hid (fun i hi => by
        by_cases hik : i < k
        · exact HF.out i hik
        · obtain rfl : i = k := by omega
          omega)
      go_wp2_with fail
      go_quiet (fail)
      go_wp2_with fail
      go_roundg (4 - (k + 1))
      case measure => have := HK.out; omega
      case rel => exact ⟨k + 1, by have := HK.out; omega, rfl, by go_num, HR, Lib.hid (drewN_below HW.out _)⟩
    · obtain rfl : k = 4 := by omega
      have HR := Lib.hid (right_yes HF.out)
      clear hk hlt
      go_wp2_with fail
      go_ret
      exact ⟨ret_bool HR.out.symm, HB.out.trans (HW.out.mono HB.out.size)⟩
end Go.Proofs.Ytgkgpehjedmejaa.Mmr
