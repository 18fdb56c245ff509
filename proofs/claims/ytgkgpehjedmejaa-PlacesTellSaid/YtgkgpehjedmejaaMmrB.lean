/- Layer 11 (memory): items compared; the leaves: has, may, the closures. -/
import Derived.Test.YtgkgpehjedmejaaMmrA
namespace Go.Proofs.Ytgkgpehjedmejaa.Mmr
open Go.RowKit Go.Proofs.Ytgkgpehjedmejaa.Mem Go.Proofs.Ytgkgpehjedmejaa.Flow

section
variable {P : Program} {w : World} {a : Addr} {m : Mode}
@[go_sem] theorem run_store_complex (k : FloatKind) (x y : Nat) : (store a (.complex k x y) m).run P w = stored P w a (.complex k x y) m := run_store P w a _ m rfl
end
theorem itSize : (Try.prog.info? 52).map (·.size) = some 13 := by kernel_rfl
theorem it_one (x : It) : (itCells x).all (·.oneCell') = true := by simp [itCells, Value.oneCell']
theorem memSize : (Try.prog.info? 28).map (·.size) = some 5 := by kernel_rfl
theorem mem_one (p : Nat → Option Addr) (c : Nat → Nat) (m : Mm) : (memCells p c m).all (·.oneCell') = true := by simp [memCells, Value.oneCell']
/-- Whether two items are the same. -/
def sameI (x y : It) : Bool := decide (x.loc = y.loc) && (decide (x.a = y.a) && decide (x.b = y.b)) && decide (x.n = y.n) && Vew.sameF 8 x.v y.v && (x.res == y.res) && decide (x.owner = y.owner)
/-- Its times are whole numbers that floats can tell. -/
def FitI (x : It) : Prop := x.a.natAbs < 2 ^ 53 ∧ x.b.natAbs < 2 ^ 53
theorem fit_may {x : It} (h : Spn.mayF x.a x.b = true) : FitI x := by have := may_le h; unfold FitI; omega
theorem fw_is {a : Int} (h : a.natAbs < 2 ^ 53) : Spn.Is (fw a) a := Spn.is_fl a h
theorem fw_0 : fw 0 = 0 := by decide
theorem eq_vew9 (f g : Nat → Int) (W : World) : (Op.equalIn 9999 50 (Vew.vewV f) (Vew.vewV g)).run Try.prog W = .ok (Vew.sameF 8 f g) W := by
  have e1 : ∀ W, (Op.equalIn 9998 48 (Vew.arr f) (Vew.arr g)).run Try.prog W = .ok (Vew.sameF 4 f g) W := fun W => Vew.eq_arr 9996 f g W
  have e2 : ∀ W, (Op.equalIn 9998 48 (Vew.arr (Vew.from_ 4 f)) (Vew.arr (Vew.from_ 4 g))).run Try.prog W = .ok (Vew.sameF 4 (Vew.from_ 4 f) (Vew.from_ 4 g)) W := fun W => Vew.eq_arr 9996 (Vew.from_ 4 f) (Vew.from_ 4 g) W
  simp only [Vew.arr, Vew.from_] at e1 e2
  rw [Vew.same8, show (9999 : Nat) = 9998 + 1 from rfl, run_equalIn_agg W 9998 50 _ _ Vew.structV Vew.heldV]
  simp only [Program.fieldsOf, Try.underlying50]
  have a4 := Try.isAgg48
  have z4 := Try.sizeOf48
  generalize Vew.sameF 4 f g = b1 at e1 ⊢
  generalize Vew.sameF 4 (Vew.from_ 4 f) (Vew.from_ 4 g) = b2 at e2 ⊢
  go_simp
  cases b1 <;> cases b2 <;> rfl
theorem eq_cpx (d : Nat) (x y u v : Nat) (W : World) : (Op.equalIn (d + 1) 47 (.complex .f64 x y) (.complex .f64 u v)).run Try.prog W = .ok (FloatKind.f64.format.order x u == some .eq && FloatKind.f64.format.order y v == some .eq) W := by
  simp [Op.equalIn, run_underlying Try.underlying47, Op.floatEq]
theorem eq_int (d : Nat) (a b : Int) (W : World) : (Op.equalIn (d + 1) 3 (.int .i64 a) (.int .i64 b)).run Try.prog W = .ok (decide (a = b)) W := by
  simp [Op.equalIn, run_underlying Try.underlying3, Bool.beq_eq_decide_eq]
theorem eq_u64 (d : Nat) (a b : Int) (W : World) : (Op.equalIn (d + 1) 44 (.int .u64 a) (.int .u64 b)).run Try.prog W = .ok (decide (a = b)) W := by
  simp [Op.equalIn, run_underlying Try.underlying44, Bool.beq_eq_decide_eq]
theorem eq_bool (d : Nat) (a b : Bool) (W : World) : (Op.equalIn (d + 1) 4 (.bool a) (.bool b)).run Try.prog W = .ok (a == b) W := by
  simp [Op.equalIn, run_underlying Try.underlying4]
theorem structI : Try.prog.underlying 52 = some (.struct (Try.prog.fieldsOf 52)) := by kernel_rfl
theorem heldI : Try.prog.stoodInHeld 52 = false := by kernel_rfl
set_option maxRecDepth 10000 in
theorem eq_it (x y : It) (hx : FitI x) (hy : FitI y) (W : World) : (Op.equalIn 10000 52 (itV x) (itV y)).run Try.prog W = .ok (sameI x y) W := by
  have e1 : ∀ W, (Op.equalIn 9999 3 (.int .i64 x.loc) (.int .i64 y.loc)).run Try.prog W = .ok (decide (x.loc = y.loc)) W := eq_int 9998 _ _
  have e2 : ∀ W, (Op.equalIn 9999 47 (.complex .f64 (fw x.a) (fw x.b)) (.complex .f64 (fw y.a) (fw y.b))).run Try.prog W = .ok (decide (x.a = y.a) && decide (x.b = y.b)) W := fun W => by
    rw [show (9999 : Nat) = 9998 + 1 from rfl, eq_cpx, Spn.order_same (fw_is hx.1) (fw_is hy.1), Spn.order_same (fw_is hx.2) (fw_is hy.2)]
  have e3 : ∀ W, (Op.equalIn 9999 44 (.int .u64 x.n) (.int .u64 y.n)).run Try.prog W = .ok (decide (x.n = y.n)) W := eq_u64 9998 _ _
  have e4 : ∀ W, (Op.equalIn 9999 50 (Vew.vewV x.v) (Vew.vewV y.v)).run Try.prog W = .ok (Vew.sameF 8 x.v y.v) W := eq_vew9 x.v y.v
  have e5 : ∀ W, (Op.equalIn 9999 4 (.bool x.res) (.bool y.res)).run Try.prog W = .ok (x.res == y.res) W := eq_bool 9998 _ _
  have e6 : ∀ W, (Op.equalIn 9999 3 (.int .i64 x.owner) (.int .i64 y.owner)).run Try.prog W = .ok (decide (x.owner = y.owner)) W := eq_int 9998 _ _
  simp only [Vew.vewV, Vew.vewCells] at e4
  unfold sameI
  rw [show (10000 : Nat) = 9999 + 1 from rfl, run_equalIn_agg W 9999 52 _ _ structI heldI]
  simp only [Program.fieldsOf, Try.underlying52]
  have a1 := Try.isAgg3
  have z1 := Try.sizeOf3
  have a2 := Try.isAgg47
  have z2 := Try.sizeOf47
  have a3 := Try.isAgg44
  have z3 := Try.sizeOf44
  have a4 := Try.isAgg50
  have z4 := Try.sizeOf50
  have a5 := Try.isAgg4
  have z5 := Try.sizeOf4
  generalize decide (x.loc = y.loc) = b1 at e1 ⊢
  generalize (decide (x.a = y.a) && decide (x.b = y.b)) = b2 at e2 ⊢
  generalize decide (x.n = y.n) = b3 at e3 ⊢
  generalize Vew.sameF 8 x.v y.v = b4 at e4 ⊢
  generalize (x.res == y.res) = b5 at e5 ⊢
  generalize decide (x.owner = y.owner) = b6 at e6 ⊢
  go_simp
  cases b1 <;> cases b2 <;> cases b3 <;> cases b4 <;> cases b5 <;> cases b6 <;> rfl
theorem eql_it (x y : It) (hx : FitI x) (hy : FitI y) (W : World) : (binOp .eql 52 (itV x) (itV y)).run Try.prog W = .ok (.bool (sameI x y)) W := by
  rw [run_eql_struct, eq_it x y hx hy]; rfl
theorem neq_it (x y : It) (hx : FitI x) (hy : FitI y) (W : World) : (binOp .neq 52 (itV x) (itV y)).run Try.prog W = .ok (.bool (!sameI x y)) W := by
  rw [run_neq_struct, eq_it x y hx hy]; rfl
theorem guard_it (op : BinOp) (x y : Operand) (a b : It) (W : World) : (eqGuard op 52 x y (itV a) (itV b)).run Try.prog W = .ok () W :=
  run_eqGuard_agg W op 52 x y _ _ (by kernel_rfl)
theorem same_self (x : It) : sameI x x = true := by simp [sameI, Vew.same_iff]
end Go.Proofs.Ytgkgpehjedmejaa.Mmr
