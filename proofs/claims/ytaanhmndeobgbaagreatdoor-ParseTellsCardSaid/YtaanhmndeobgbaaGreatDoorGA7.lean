/- Part 8 of the proof: what is used of the texts ExprF. -/
import Derived.Test.YtaanhmndeobgbaaGreatDoorGA6
namespace Go.Proofs.YtaanhmndeobgbaaGreatDoor.Expr
open Go.RowKit Mem Go.Lib
def Ex.size:Ex->Nat
 | .one _ a=>a.size+1
 | .two _ a b=>a.size+b.size+1
 | _=>1
theorem jD (n k:Nat) (l:List UInt8):(dG n k l).length<=l.length+2:=by
 unfold dG;split <;> simp
theorem uQ (op:Nat):(sign op).length<=2:=by
 unfold sign;by_cases h:op<15
 ·have:∀ y:Fin 15,(([[],[61,61],[33,61],[60],[60,61],[43],[45],[124],[94],[42],[47],[37],[38],[33],[45]]:List (List UInt8)).getD y.val []).length<=2:=by decide
  exact this ⟨op,h⟩
 ·rw [List.getD_eq_getElem?_getD,List.getElem?_eq_none (by simp;omega)];simp
theorem mr (e:Ex) (h:e.ok):e.text.length<=28 * e.size:=by
 induction e with
 | num n=>have:=lJ n h;simp only [Ex.text,Ex.size];omega
 | reg i=>have h':i<8:=h;have:=lJ i (by omega);simp only [Ex.text,Ex.size,List.length_cons];omega
 | of t i =>
  have h':t<4/\i<8:=h;have:(dec t).length<=1:=by unfold dec;rw [Lib.decDigits_length,Lib.nDigits_small (by omega)];exact Nat.le_refl _
  have:=lJ i (by omega);simp only [Ex.text,Ex.size,List.length_cons,List.length_append];omega
 | loc x=>simp [Ex.text,Ex.size]
 | one op a ih =>
  have:=ih h.2;have:=jD (ai op) a.strong a.text;have:=uQ op;simp only [Ex.text,Ex.size,List.length_append];omega
 | two op a b iha ihb =>
  have:=iha h.2.2.1;have:=ihb h.2.2.2;have:=jD (ai op) a.strong a.text;have:=jD (ai op+1) b.strong b.text;have:=uQ op;simp only [Ex.text,Ex.size,List.length_append,List.length_cons,List.length_nil];omega
theorem Gy (e:Ex):e.size+1<=2 ^ e.depth:=by
 induction e with
 | one op a ih=>simp only [Ex.size,Ex.depth,Nat.pow_succ];omega
 | two op a b iha ihb =>
  have h1:2 ^ a.depth<=2 ^ max a.depth b.depth:=Nat.pow_le_pow_right (by omega) (Nat.le_max_left _ _);have h2:2 ^ b.depth<=2 ^ max a.depth b.depth:=Nat.pow_le_pow_right (by omega) (Nat.le_max_right _ _);simp only [Ex.size,Ex.depth,Nat.pow_succ];omega
 | _=>simp [Ex.size,Ex.depth]
theorem pJ (e:Ex) (h:e.ok) (hd:e.depth<=12):e.text.length<=114660:=by
 have h1:=mr e h;have h2:=Gy e;have h3:2 ^ e.depth<=2 ^ 12:=Nat.pow_le_pow_right (by omega) hd;have h4:(2:Nat) ^ 12=4096:=rfl;omega
theorem fA (op:Nat) (h:op<=255) (w:World) (hT:pE w):Calls Tryz.prog 110 #[.int .u8 op] w fun e w'=>e = .returned (.string (str (sign op)))/\w=w' :=
 (Num.bI op (by omega) (by omega) w hT.1).mono fun _ _ h=>h
section
variable (l : List It) (k : Nat) (v : Value) (w : World)
end
end Go.Proofs.YtaanhmndeobgbaaGreatDoor.Expr
