/- Part 4 of the proof: what is used of the texts NumA, NumC. -/
import Derived.Test.YtaanhmndeobgbaaGreatDoorRows
import Derived.WalkKit
import Derived.WalkLawsBesides
import Derived.WalkMore
import Derived.Scope
import Derived.ScopeJumps
import Derived.Outline
import Derived.Lib.Hide
import Derived.LoopTactic
import Derived.Below
import Derived.Laws.BitsAllLaws
import Derived.Lib.LaidTab
import Derived.Laws.Tables
namespace Go.Proofs.YtaanhmndeobgbaaGreatDoor.Num
open Go.RowKit
def b2 (b:Bool):Int:=if b then 1 else 0
section
variable {Q : Exit → Act → World → Prop} {J : Act → World → Prop} {a : Act} {w : World} {l : Nat}
end
theorem jO {k:IntKind} {a b:Int} (h:a=b):Ending.returned (.int k a) = .returned (.int k b):=by rw [h]
def qN (op:Int):Int:=if 1<=op/\op<=12 then 2 else if op=13 \/ op=14 then 1 else 0
theorem EA {op:Int} (h1:1<=op) (h2:op<=12):2=qN op:=by unfold qN;rw [if_pos ⟨h1,h2⟩]
theorem uN {op:Int} (h:op<1 \/ 14<op):0=qN op:=by unfold qN;rw [if_neg (by omega),if_neg (by omega)]
theorem JX (op:Int) (w:World) :
  Calls Tryz.prog 111 #[.int .u8 op] w fun e w'=>e = .returned (.int .i64 (qN op))/\w=w':=by
 by_cases h1:op<1
 ·go_enter Tryz.func111,Tryz.ntmps111
  have e1:(op == 13)=false:=beq_eq_false_iff_ne.2 (by omega);have e2:(op == 14)=false:=beq_eq_false_iff_ne.2 (by omega);go_wp2
  go_ret;exact ⟨jO (uN (.inl h1)),rfl⟩
 ·by_cases h2:op<=12
  ·go_enter Tryz.func111,Tryz.ntmps111
   go_wp2
   go_ret;exact ⟨jO (EA (by omega) h2),rfl⟩
  ·by_cases h3:op=13
   ·subst h3
    go_enter Tryz.func111,Tryz.ntmps111;go_wp2
    go_ret;exact ⟨rfl,rfl⟩
   ·by_cases h4:op=14
    ·subst h4
     go_enter Tryz.func111,Tryz.ntmps111;go_wp2
     go_ret;exact ⟨rfl,rfl⟩
    ·have e1:(op == 13)=false:=beq_eq_false_iff_ne.2 h3
     have e2:(op == 14)=false:=beq_eq_false_iff_ne.2 h4;have h5:14<op:=by omega
     clear h3 h4;go_enter Tryz.func111,Tryz.ntmps111;go_wp2
     go_ret;exact ⟨jO (uN (.inr h5)),rfl⟩
theorem Gs (op:Int) (w:World) :
  Calls Tryz.prog 126 #[.int .u8 op] w fun e w'=>e = .returned (.int .i64 (qN op))/\w=w':=by
 by_cases h1:op<1
 ·go_enter Tryz.func126,Tryz.ntmps126
  have e1:(op == 13)=false:=beq_eq_false_iff_ne.2 (by omega);have e2:(op == 14)=false:=beq_eq_false_iff_ne.2 (by omega);go_wp2
  go_ret;exact ⟨jO (uN (.inl h1)),rfl⟩
 ·by_cases h2:op<=12
  ·go_enter Tryz.func126,Tryz.ntmps126
   have e1:(op == 13)=false:=beq_eq_false_iff_ne.2 (by omega);have e2:(op == 14)=false:=beq_eq_false_iff_ne.2 (by omega);go_wp2
   go_ret;exact ⟨jO (EA (by omega) h2),rfl⟩
  ·by_cases h3:op=13
   ·subst h3
    go_enter Tryz.func126,Tryz.ntmps126;go_wp2
    go_ret;exact ⟨rfl,rfl⟩
   ·by_cases h4:op=14
    ·subst h4
     go_enter Tryz.func126,Tryz.ntmps126;go_wp2
     go_ret;exact ⟨rfl,rfl⟩
    ·have e1:(op == 13)=false:=beq_eq_false_iff_ne.2 h3
     have e2:(op == 14)=false:=beq_eq_false_iff_ne.2 h4;have h5:14<op:=by omega
     clear h3 h4;go_enter Tryz.func126,Tryz.ntmps126;go_wp2
     go_ret;exact ⟨jO (uN (.inr h5)),rfl⟩
def CE {H:Type} (zs:List (List UInt8)):DataW H:=.agg (zs.map fun z => .lit (.string z))
def bytesOf (z:List UInt8):ByteArray:=⟨z.toArray⟩
abbrev strVal (z:List UInt8):Value:=.string (bytesOf z)
def Bi (P:Program) (w:World) (name:String) (zs:List (List UInt8)):Prop:=w.var? P name=some (zs.map strVal).toArray
theorem Az {H:Type} {enc:TypeId × Value->H} {P:Program} {w:World} {base:Nat} {sp:Nat->Bool} {held:Bool} {fuel:Nat} {t e:TypeId} {n:Nat} {cs:List Value} {zs:List (List UInt8)} {p:List MemPlace}
  (ht:P.underlying t=some (.array n e)) (he:P.underlying e=some .string) (hce:P.cellsOf e=1) (hct:P.cellsOf t=n)
  (h:DataW.trod enc P w base sp held fuel t cs=some (CE zs,p)):cs=zs.map strVal:=by
 cases fuel with
 | zero=>simp [DataW.trod] at h
 | succ fuel =>
  simp only [DataW.trod,ht,hce,hct,Nat.mul_one] at h
  split at h
  ·rename_i hl
   obtain ⟨xs,hm,hx⟩:=Option.map_eq_some_iff.1 h;have hxs:xs.map (·.1)=zs.map fun z=>(DataW.lit (.string z):DataW H):=by
    have:=congrArg Prod.fst hx;simpa [CE] using this
   have hxl:xs.length=n:=by simpa using Lib.mapM_length hm
   have hzl:zs.length=n:=by
    have:=congrArg List.length hxs;simp at this
    omega
   apply List.ext_getElem?;intro i;by_cases hi:i<n
   ·obtain ⟨b,hb,hf⟩:=Lib.mapM_at hm i i (by simp [hi])
    obtain ⟨s,hc,rfl,_⟩:=DataW.trod_string he hf;have h1:cs[i]? = some (.string s):=by
     have:=congrArg (·[0]?) hc;simpa [List.getElem?_take,List.getElem?_drop] using this
    have h2:(xs.map (·.1))[i]? = some (DataW.lit (.string s.data.toList):DataW H):=by simp [hb]
    rw [hxs] at h2;simp only [List.getElem?_map,Option.map_eq_some_iff,DataW.lit.injEq,Lit.string.injEq] at h2
    obtain ⟨z',hz',rfl⟩:=h2;simp [h1,hz',bytesOf]
   ·rw [List.getElem?_eq_none (by omega),List.getElem?_eq_none (by simp;omega)]
  ·cases h
theorem Bi.cell {P:Program} {W:World} {name:String} {zs:List (List UInt8)} {g:Nat} (h:Bi P W name zs) (hg:P.globalNamed name=some g) (i:Nat) (hi:i<zs.length) :
  W.cell? ⟨g,i,none⟩=some (strVal (zs.getD i [])):=by
 have:=World.var?_cell hg h i;simpa [List.getD,hi] using this
def texts:List (List UInt8):=[[],[61,61],[33,61],[60],[60,61],[43],[45],[124],[94],[42],[47],[37],[38],[33],[45]]
def aZ (op:Int):List UInt8:=texts.getD op.toNat []
theorem Gu (op:Int) (h:15<=op):aZ op=[]:=by
 unfold aZ;rw [List.getD_eq_getElem?_getD,List.getElem?_eq_none (by simp [texts];omega)];rfl
def rU (w:World):Prop:=2<w.heap.size/\∀ i:Nat,i<15->w.cell? ⟨2,i,none⟩=some (strVal (texts.getD i []))
theorem rU.below {w w':World} (h:rU w) (hb:Below w.heap.size w w'):rU w' :=
 ⟨Nat.lt_of_lt_of_le h.1 hb.size,fun i hi=>(hb.cell (p:=⟨2,i,none⟩) h.1).trans (h.2 i hi)⟩
theorem bI (op:Int) (h0:0<=op) (h1:op<=255) (w:World) (hT:rU w) :
  Calls Tryz.prog 110 #[.int .u8 op] w fun e w'=>e = .returned (strVal (aZ op))/\w=w':=by
 by_cases h:15<=op
 ·have HT:=Lib.hid (Gu op h)
  go_enter Tryz.func110,Tryz.ntmps110;go_wp2
  go_ret;exact ⟨by rw [HT.out];rfl,rfl⟩
 ·have hcell:=hT.2 op.toNat (by omega)
  have HT:Hid (aZ op=texts.getD op.toNat []):=Lib.hid rfl;go_enter Tryz.func110,Tryz.ntmps110;go_wp2
  go_ret;exact ⟨by rw [HT.out,List.getD_eq_getElem?_getD];rfl,rfl⟩
end Go.Proofs.YtaanhmndeobgbaaGreatDoor.Num
