/- Layer 4 (prog): Modes; the closure that counts in wakes. -/
import Derived.Test.YtpdpofoicdijlaaGreatDoorStmM
namespace Go.Proofs.YtpdpofoicdijlaaGreatDoor.Prog
open Go.RowKit Go.Proofs.YtpdpofoicdijlaaGreatDoor.Mem Go.Proofs.YtpdpofoicdijlaaGreatDoor.Expr Go.Lib

def modesOf (k : Nat) : List Nat := if k = 2 then [1, 2, 3] else if k = 3 then [1, 2, 4] else if k = 4 ∨ k = 5 ∨ k = 6 then [2, 3, 4, 5] else if k = 7 then [3, 4, 5, 6] else []
/-- A row of small numbers. -/
def Small (w : World) (v : Value) (l : List Nat) : Prop := (l = [] ∧ v = .slice none 0 0) ∨ ∃ g, v = .slice (some ⟨g, 0, none⟩) l.length l.length ∧ Sits w g 5 (l.map fun (n : Nat) => Value.int .u8 (n : Int)).toArray
set_option maxRecDepth 100000 in
theorem rowb_any (p : Option Addr) (n c : Nat) (w : World) : Calls Tryz.prog 52 #[.slice p n c] w fun e w' => e = .returned (.slice p n c) ∧ w = w' := by
  go_enter Tryz.func52, Tryz.ntmps52
  go_wp2_with fail
  go_ret
  exact ⟨rfl, rfl⟩
def ModesMade (k : Nat) (w : World) (e : Ending) (w' : World) : Prop := ∃ v, e = .returned v ∧ Small w' v (modesOf k) ∧ Below w.heap.size w w'
set_option maxRecDepth 100000 in
theorem modes_any (k : Nat) (hk : k < 256) (w : World) : Calls Tryz.prog 23 #[.int .u8 (k : Nat)] w (ModesMade k w) := by
  by_cases h : k = 2 ∨ k = 3 ∨ k = 4 ∨ k = 5 ∨ k = 6 ∨ k = 7
  · obtain rfl | rfl | rfl | rfl | rfl | rfl := h <;>
    · clear hk
      go_enter Tryz.func23, Tryz.ntmps23
      go_wp2_with fail
      refine (rowb_any _ _ _ _).mono ?_
      rintro e w1 ⟨rfl, rfl⟩
      go_wp2_with fail
      go_ret
      exact ⟨_, rfl, .inr ⟨_, rfl, Sits.made (by simp) _ _⟩, (Below.refl _ _).alloc (Nat.le_refl _) _⟩
  · have hm : modesOf k = [] := by unfold modesOf; rw [if_neg (by omega), if_neg (by omega), if_neg (by omega), if_neg (by omega)]
    have HM := Lib.hid hm
    have i2 : ((k : Int) == 2) = false := beq_eq_false_iff_ne.2 (by omega)
    have i3 : ((k : Int) == 3) = false := beq_eq_false_iff_ne.2 (by omega)
    have i4 : ((k : Int) == 4) = false := beq_eq_false_iff_ne.2 (by omega)
    have i5 : ((k : Int) == 5) = false := beq_eq_false_iff_ne.2 (by omega)
    have i6 : ((k : Int) == 6) = false := beq_eq_false_iff_ne.2 (by omega)
    have i7 : ((k : Int) == 7) = false := beq_eq_false_iff_ne.2 (by omega)
    clear h hm
    go_enter Tryz.func23, Tryz.ntmps23
    go_wp2_with fail
    go_ret
    exact ⟨_, rfl, .inl ⟨HM.out, rfl⟩, Below.refl _ _⟩
/-- The box behind one more, and a copy of the statement. -/
theorem ticked {g n : Nat} {w : World} (hn : Count w g n) (o : Obj) : Count ((w.setCell ⟨g, 0, none⟩ (.int .i64 ((n : Int) + 1))).alloc o) g (n + 1) := by
  have h := (hn.put 0 (.int .i64 ((n : Int) + 1))).alloc o
  show Sits _ g 3 #[.int .i64 ((n + 1 : Nat) : Int)]
  rw [show ((n + 1 : Nat) : Int) = (n : Int) + 1 by omega]
  simpa using h
theorem wtick_enters : Expr.Enters 21 := enters_of Tryz.func21 (by kernel_rfl) rfl
set_option maxRecDepth 100000 in
theorem wtick (g : Nat) : Ticks 21 g where
  enters := wtick_enters
  call := fun m pa pb pt pe nt ct ne ce n w hn hC => by
    have cn := hC.cell 0
    have fn := hC.free 0
    have ln := hC.lt
    have i1 : (n : Int) ≤ 1000000000 := by omega
    have HC := Lib.hid (ticked hC (.cells #[.int .u8 m.kind, .int .u8 m.reg, .int .u8 m.mode, .int .u8 m.loc, .pointer pa, .pointer pb, .slice pt nt ct, .slice pe ne ce] 62))
    have HK := Lib.hid (((Keeps.refl (fun x => x = g) w).put (p := ⟨g, 0, none⟩) (.inl rfl) (.int .i64 ((n : Int) + 1))).alloc (.cells #[.int .u8 m.kind, .int .u8 m.reg, .int .u8 m.mode, .int .u8 m.loc, .pointer pa, .pointer pb, .slice pt nt ct, .slice pe ne ce] 62))
    unfold stAgg
    clear hC hn
    go_enter Tryz.func21, Tryz.ntmps21
    go_wp2_with fail
    go_end0
    exact ⟨rfl, HC.out, HK.out⟩
end Go.Proofs.YtpdpofoicdijlaaGreatDoor.Prog
