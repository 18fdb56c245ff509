/- Layer 10 (view): the contracts of later, Join, Within, May, At, Flat. -/
import Derived.Test.YtgkgpehjedmejaaMem
import Derived.Test.YtgkgpehjedmejaaRows
import Derived.Test.YtgkgpehjedmejaaVewS
import Derived.LoopN
import Derived.ChangeKeysEq
namespace Go.Proofs.Ytgkgpehjedmejaa.Vew
open Go.RowKit Go.Proofs.Ytgkgpehjedmejaa.Mem

abbrev arr (f : Nat → Int) : Value := .agg #[.int .i64 (f 0), .int .i64 (f 1), .int .i64 (f 2), .int .i64 (f 3)]
abbrev vewCells (f : Nat → Int) : Array Value := #[.int .i64 (f 0), .int .i64 (f 1), .int .i64 (f 2), .int .i64 (f 3), .int .i64 (f 4), .int .i64 (f 5), .int .i64 (f 6), .int .i64 (f 7)]
abbrev vewV (f : Nat → Int) : Value := .agg (vewCells f)
theorem max_if {f g : Nat → Int} {i : Nat} : (if f i < g i then g i else f i) = maxF f g i := rfl
theorem run_index_array {P : Program} {t e : TypeId} {n : Nat} {cs : Array Value} {k : IntKind} {i : Int} {v : Value} (h : P.underlying t = some (.array n e)) (hz : ∀ w, (sizeOf e).run P w = .ok 1 w) (ha : ∀ w, (isAgg e).run P w = .ok false w)
    (hn : 0 ≤ i ∧ i < (n : Int)) (hv : cs[i.toNat]? = some v) (w : World) :
    (Instr.index t (.agg cs) (.int k i)).run P w = .ok v w := by
  simp [Instr.index, run_underlying h, asIntOf, hn, part, hz, ha, hv, go_sem]
theorem idx (f : Nat → Int) : ∀ (i : Nat), i < 4 → ∀ W, (Instr.index 48 (arr f) (.int .i64 (i : Int))).run Try.prog W = .ok (.int .i64 (f i)) W
  | 0, _, W => run_index_array Try.underlying48 Try.sizeOf3 Try.isAgg3 (by decide) rfl W
  | 1, _, W => run_index_array Try.underlying48 Try.sizeOf3 Try.isAgg3 (by decide) rfl W
  | 2, _, W => run_index_array Try.underlying48 Try.sizeOf3 Try.isAgg3 (by decide) rfl W
  | 3, _, W => run_index_array Try.underlying48 Try.sizeOf3 Try.isAgg3 (by decide) rfl W
  | (n + 4), h, _ => absurd h (by omega)

/-! ### Arrays of numbers are the same where all their places are -/
theorem run_equalIn_ints {P : Program} (d : Nat) (t e : TypeId) (n : Nat) (ht : P.underlying t = some (.array n e)) (he : P.underlying e = some (.int .i64)) (hsz : ∀ w, (sizeOf e).run P w = .ok 1 w)
    (xs ys : Array Value) (f g : Nat → Int) (hx : ∀ i, i < n → xs[i]? = some (.int .i64 (f i))) (hy : ∀ i, i < n → ys[i]? = some (.int .i64 (g i))) (w : World) :
    (Op.equalIn (d + 2) t (.agg xs) (.agg ys)).run P w = .ok (sameF n f g) w := by
  unfold sameF
  rw [List.range_eq_range', Op.equalIn]
  simp only [Sem.run_bind, run_underlying ht, Result.andThen_ok, hsz, Std.Legacy.Range.forIn_eq_forIn_range', Std.Legacy.Range.size, Nat.sub_zero, Nat.add_sub_cancel, Nat.div_one]
  have hl : ∀ i ∈ List.range' 0 n 1, i < n := fun i hi => by simpa using (List.mem_range'_1.1 hi).2
  generalize List.range' 0 n 1 = l at hl ⊢
  induction l with
  | nil => simp
  | cons i l ih =>
    have hi : i < n := hl i (by simp)
    have px : (part e xs (i * 1)).run P w = .ok (.int .i64 (f i)) w := by simp [part, isAgg, run_underlying he, hx i hi]
    have py : (part e ys (i * 1)).run P w = .ok (.int .i64 (g i)) w := by simp [part, isAgg, run_underlying he, hy i hi]
    have pe : (Op.equalIn (d + 1) e (.int .i64 (f i)) (.int .i64 (g i))).run P w = .ok (f i == g i) w := run_equalIn_int w d e .i64 .i64 _ _ he
    simp only [List.forIn_cons, Sem.run_bind, px, py, pe, Result.andThen_ok, List.all_cons]
    cases hb : (f i == g i)
    · simp
    · simp only [Bool.not_true, Bool.false_eq_true, if_false, Sem.run_pure, Result.andThen_ok, Bool.true_and]
      exact ih fun j hj => hl j (by simp [hj])
theorem at4 (f : Nat → Int) : ∀ i, i < 4 → (#[Value.int .i64 (f 0), .int .i64 (f 1), .int .i64 (f 2), .int .i64 (f 3)])[i]? = some (.int .i64 (f i))
  | 0, _ => rfl
  | 1, _ => rfl
  | 2, _ => rfl
  | 3, _ => rfl
  | (n + 4), h => absurd h (by omega)
theorem eq_arr (d : Nat) (f g : Nat → Int) (W : World) : (Op.equalIn (d + 2) 48 (arr f) (arr g)).run Try.prog W = .ok (sameF 4 f g) W :=
  run_equalIn_ints d 48 3 4 Try.underlying48 Try.underlying3 Try.sizeOf3 _ _ f g (at4 f) (at4 g) W
theorem eql_arr (f g : Nat → Int) (W : World) : (binOp .eql 48 (arr f) (arr g)).run Try.prog W = .ok (.bool (sameF 4 f g)) W := by
  rw [run_eql_struct, show (10000 : Nat) = 9998 + 2 from rfl, eq_arr]; rfl
theorem structV : Try.prog.underlying 50 = some (.struct (Try.prog.fieldsOf 50)) := by kernel_rfl
theorem heldV : Try.prog.stoodInHeld 50 = false := by kernel_rfl
theorem same8 (f g : Nat → Int) : sameF 8 f g = (sameF 4 f g && sameF 4 (from_ 4 f) (from_ 4 g)) := by
  rw [Bool.eq_iff_iff, Bool.and_eq_true, same_iff, same_iff, same_iff]
  refine ⟨fun h => ⟨fun i hi => h i (by omega), fun i hi => h (i + 4) (by omega)⟩, fun ⟨h, k⟩ i hi => ?_⟩
  by_cases h4 : i < 4
  · exact h i h4
  · have := k (i - 4) (by omega); unfold from_ at this; rwa [Nat.sub_add_cancel (by omega)] at this
theorem eq_vew (f g : Nat → Int) (W : World) : (Op.equalIn 10000 50 (vewV f) (vewV g)).run Try.prog W = .ok (sameF 8 f g) W := by
  have e1 : ∀ W, (Op.equalIn 9999 48 (arr f) (arr g)).run Try.prog W = .ok (sameF 4 f g) W := fun W => eq_arr 9997 f g W
  have e2 : ∀ W, (Op.equalIn 9999 48 (arr (from_ 4 f)) (arr (from_ 4 g))).run Try.prog W = .ok (sameF 4 (from_ 4 f) (from_ 4 g)) W := fun W => eq_arr 9997 (from_ 4 f) (from_ 4 g) W
  simp only [arr, from_] at e1 e2
  rw [same8, show (10000 : Nat) = 9999 + 1 from rfl, run_equalIn_agg W 9999 50 _ _ structV heldV]
  simp only [Program.fieldsOf, Try.underlying50]
  have a4 := Try.isAgg48
  have z4 := Try.sizeOf48
  generalize sameF 4 f g = b1 at e1 ⊢
  generalize sameF 4 (from_ 4 f) (from_ 4 g) = b2 at e2 ⊢
  go_simp
  cases b1 <;> cases b2 <;> rfl
theorem run_max (f g : Nat → Int) (i : Nat) (P : Program) (ts : Array TypeId) (t : TypeId) (w : World) : (Builtin.max_ ts t #[.int .i64 (f i), .int .i64 (g i)]).run P w = .ok (.int .i64 (maxF f g i)) w := by
  rw [run_max_int2]
  simp only [maxF, GT.gt]
theorem below_more {B : Nat} {a w : World} (h : Below B a w) (hB : B ≤ w.heap.size) (o : Obj) : Below B a (w.alloc o) := h.alloc hB o
theorem below3 (w : World) (o o' o'' : Obj) : Below w.heap.size w (((w.alloc o).alloc o').alloc o'') :=
  below_more (below_more (below_more (Below.refl _ w) (Nat.le_refl _) o) (by simp) o') (by simp; omega) o''
set_option maxRecDepth 100000 in
theorem later_any (f g : Nat → Int) (w : World) :
    Calls Try.prog 54 #[arr f, arr g] w (Made (.returned (arr (maxF f g))) w) := by
  have x0 : ∀ W, (Instr.index 48 (arr g) (.int .i64 0)).run Try.prog W = .ok (.int .i64 (g 0)) W := idx g 0 (by decide)
  have x1 : ∀ W, (Instr.index 48 (arr g) (.int .i64 1)).run Try.prog W = .ok (.int .i64 (g 1)) W := idx g 1 (by decide)
  have x2 : ∀ W, (Instr.index 48 (arr g) (.int .i64 2)).run Try.prog W = .ok (.int .i64 (g 2)) W := idx g 2 (by decide)
  have x3 : ∀ W, (Instr.index 48 (arr g) (.int .i64 3)).run Try.prog W = .ok (.int .i64 (g 3)) W := idx g 3 (by decide)
  have m0 := fun ts t w => run_max f g 0 Try.prog ts t w
  have m1 := fun ts t w => run_max f g 1 Try.prog ts t w
  have m2 := fun ts t w => run_max f g 2 Try.prog ts t w
  have m3 := fun ts t w => run_max f g 3 Try.prog ts t w
  go_enter Try.func54, Try.ntmps54
  go_wp2
  refine wp_loop_rounds 5 ?_
  simp only [Code.rounds]
  go_wp2
  exact bodyPost_ret (v := arr (maxF f g)) (by simp [results, Try.results54, go_sem]) rfl ⟨rfl, below3 _ _ _ _⟩
end Go.Proofs.Ytgkgpehjedmejaa.Vew
