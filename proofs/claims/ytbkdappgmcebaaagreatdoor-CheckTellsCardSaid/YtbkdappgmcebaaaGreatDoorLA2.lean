/- Part 3 of the proof: what is used of the texts NumA, NumB, NumC. -/
import Derived.Test.YtbkdappgmcebaaaGreatDoorRows
import Derived.WalkKit
import Derived.WalkLawsBesides
import Derived.WalkMore
import Derived.Scope
import Derived.ScopeJumps
import Derived.Outline
import Derived.Lib.Hide
import Derived.LoopTactic
import Derived.Below
import Derived.Laws.BitsAllLaws
import Derived.Lib.LaidTab
import Derived.Laws.Tables
section
namespace Go.Proofs.YtbkdappgmcebaaaGreatDoor.Num
open Go.RowKit
def b2 (b:Bool):Int:=if b then 1 else 0
section
variable {Q : Exit → Act → World → Prop} {J : Act → World → Prop} {a : Act} {w : World} {l : Nat}
end
theorem ret_int {k:IntKind} {a b:Int} (h:a=b):Ending.returned (.int k a) = .returned (.int k b):=by rw [h]
def sidesF (op:Int):Int:=if 1<=op/\op<=12 then 2 else if op=13 \/ op=14 then 1 else 0
theorem sidesF_2 {op:Int} (h1:1<=op) (h2:op<=12):2=sidesF op:=by unfold sidesF;rw [if_pos ⟨h1,h2⟩]
theorem sidesF_0 {op:Int} (h:op<1 \/ 14<op):0=sidesF op:=by unfold sidesF;rw [if_neg (by omega),if_neg (by omega)]
theorem sides_any (op:Int) (w:World) :
    Calls Tryz.prog 171 #[.int .u8 op] w fun e w'=>e = .returned (.int .i64 (sidesF op))/\w=w':=by
  by_cases h1:op<1
  · go_enter Tryz.func171,Tryz.ntmps171
    have e1:(op == 13)=false:=beq_eq_false_iff_ne.2 (by omega)
    have e2:(op == 14)=false:=beq_eq_false_iff_ne.2 (by omega)
    go_wp2
    go_ret
    exact ⟨ret_int (sidesF_0 (.inl h1)),rfl⟩
  · by_cases h2:op<=12
    · go_enter Tryz.func171,Tryz.ntmps171
      go_wp2
      go_ret
      exact ⟨ret_int (sidesF_2 (by omega) h2),rfl⟩
    · by_cases h3:op=13
      · subst h3
        go_enter Tryz.func171,Tryz.ntmps171
        go_wp2
        go_ret
        exact ⟨rfl,rfl⟩
      · by_cases h4:op=14
        · subst h4
          go_enter Tryz.func171,Tryz.ntmps171
          go_wp2
          go_ret
          exact ⟨rfl,rfl⟩
        · have e1:(op == 13)=false:=beq_eq_false_iff_ne.2 h3
          have e2:(op == 14)=false:=beq_eq_false_iff_ne.2 h4
          have h5:14<op:=by omega
          clear h3 h4
          go_enter Tryz.func171,Tryz.ntmps171
          go_wp2
          go_ret
          exact ⟨ret_int (sidesF_0 (.inr h5)),rfl⟩
theorem rsides_any (op:Int) (w:World) :
    Calls Tryz.prog 186 #[.int .u8 op] w fun e w'=>e = .returned (.int .i64 (sidesF op))/\w=w':=by
  by_cases h1:op<1
  · go_enter Tryz.func186,Tryz.ntmps186
    have e1:(op == 13)=false:=beq_eq_false_iff_ne.2 (by omega)
    have e2:(op == 14)=false:=beq_eq_false_iff_ne.2 (by omega)
    go_wp2
    go_ret
    exact ⟨ret_int (sidesF_0 (.inl h1)),rfl⟩
  · by_cases h2:op<=12
    · go_enter Tryz.func186,Tryz.ntmps186
      have e1:(op == 13)=false:=beq_eq_false_iff_ne.2 (by omega)
      have e2:(op == 14)=false:=beq_eq_false_iff_ne.2 (by omega)
      go_wp2
      go_ret
      exact ⟨ret_int (sidesF_2 (by omega) h2),rfl⟩
    · by_cases h3:op=13
      · subst h3
        go_enter Tryz.func186,Tryz.ntmps186
        go_wp2
        go_ret
        exact ⟨rfl,rfl⟩
      · by_cases h4:op=14
        · subst h4
          go_enter Tryz.func186,Tryz.ntmps186
          go_wp2
          go_ret
          exact ⟨rfl,rfl⟩
        · have e1:(op == 13)=false:=beq_eq_false_iff_ne.2 h3
          have e2:(op == 14)=false:=beq_eq_false_iff_ne.2 h4
          have h5:14<op:=by omega
          clear h3 h4
          go_enter Tryz.func186,Tryz.ntmps186
          go_wp2
          go_ret
          exact ⟨ret_int (sidesF_0 (.inr h5)),rfl⟩
end Go.Proofs.YtbkdappgmcebaaaGreatDoor.Num
end
section
namespace Go.Proofs.YtbkdappgmcebaaaGreatDoor.Num
open Go.RowKit
def gk (k x y:Nat):Nat:=if k=0 then (if x+y > 0 then 1 else 0) else if k=1 then (if x=y then 0 else 1) else (if x+y=2 then 1 else 0)
end Go.Proofs.YtbkdappgmcebaaaGreatDoor.Num
end
section
namespace Go.Proofs.YtbkdappgmcebaaaGreatDoor.Num
open Go.RowKit
def strData {H:Type} (zs:List (List UInt8)):DataW H:=.agg (zs.map fun z => .lit (.string z))
def bytesOf (z:List UInt8):ByteArray:=⟨z.toArray⟩
abbrev strVal (z:List UInt8):Value:=.string (bytesOf z)
def StrIs (P:Program) (w:World) (name:String) (zs:List (List UInt8)):Prop:=w.var? P name=some (zs.map strVal).toArray
theorem cells_of_strs {H:Type} {enc:TypeId × Value->H} {P:Program} {w:World} {base:Nat} {sp:Nat->Bool} {held:Bool} {fuel:Nat} {t e:TypeId} {n:Nat} {cs:List Value} {zs:List (List UInt8)} {p:List MemPlace}
    (ht:P.underlying t=some (.array n e)) (he:P.underlying e=some .string) (hce:P.cellsOf e=1) (hct:P.cellsOf t=n)
    (h:DataW.trod enc P w base sp held fuel t cs=some (strData zs,p)):cs=zs.map strVal:=by
  cases fuel with
  | zero=>simp [DataW.trod] at h
  | succ fuel =>
    simp only [DataW.trod,ht,hce,hct,Nat.mul_one] at h
    split at h
    · rename_i hl
      obtain ⟨xs,hm,hx⟩:=Option.map_eq_some_iff.1 h
      have hxs:xs.map (·.1)=zs.map fun z=>(DataW.lit (.string z):DataW H):=by
        have:=congrArg Prod.fst hx
        simpa [strData] using this
      have hxl:xs.length=n:=by simpa using Lib.mapM_length hm
      have hzl:zs.length=n:=by
        have:=congrArg List.length hxs
        simp at this
        omega
      apply List.ext_getElem?
      intro i
      by_cases hi:i<n
      · obtain ⟨b,hb,hf⟩:=Lib.mapM_at hm i i (by simp [hi])
        obtain ⟨s,hc,rfl,_⟩:=DataW.trod_string he hf
        have h1:cs[i]? = some (.string s):=by
          have:=congrArg (·[0]?) hc
          simpa [List.getElem?_take,List.getElem?_drop] using this
        have h2:(xs.map (·.1))[i]? = some (DataW.lit (.string s.data.toList):DataW H):=by simp [hb]
        rw [hxs] at h2
        simp only [List.getElem?_map,Option.map_eq_some_iff,DataW.lit.injEq,Lit.string.injEq] at h2
        obtain ⟨z',hz',rfl⟩:=h2
        simp [h1,hz',bytesOf]
      · rw [List.getElem?_eq_none (by omega),List.getElem?_eq_none (by simp;omega)]
    · cases h
theorem StrIs.cell {P:Program} {W:World} {name:String} {zs:List (List UInt8)} {g:Nat} (h:StrIs P W name zs) (hg:P.globalNamed name=some g) (i:Nat) (hi:i<zs.length) :
    W.cell? ⟨g,i,none⟩=some (strVal (zs.getD i [])):=by
  have:=World.var?_cell hg h i
  simpa [List.getD,hi] using this
def texts:List (List UInt8):=[[],[61,61],[33,61],[60],[60,61],[43],[45],[124],[94],[42],[47],[37],[38],[33],[45]]
def textF (op:Int):List UInt8:=texts.getD op.toNat []
theorem textF_none (op:Int) (h:15<=op):textF op=[]:=by
  unfold textF;rw [List.getD_eq_getElem?_getD,List.getElem?_eq_none (by simp [texts];omega)];rfl
def TextsAt (w:World):Prop:=3<w.heap.size/\∀ i:Nat,i<15->w.cell? ⟨3,i,none⟩=some (strVal (texts.getD i []))
theorem TextsAt.below {w w':World} (h:TextsAt w) (hb:Below w.heap.size w w'):TextsAt w' :=
  ⟨Nat.lt_of_lt_of_le h.1 hb.size,fun i hi=>(hb.cell (p:=⟨3,i,none⟩) h.1).trans (h.2 i hi)⟩
theorem text_any (op:Int) (h0:0<=op) (h1:op<=255) (w:World) (hT:TextsAt w) :
    Calls Tryz.prog 170 #[.int .u8 op] w fun e w'=>e = .returned (strVal (textF op))/\w=w':=by
  by_cases h:15<=op
  · have HT:=Lib.hid (textF_none op h)
    go_enter Tryz.func170,Tryz.ntmps170
    go_wp2
    go_ret
    exact ⟨by rw [HT.out];rfl,rfl⟩
  · have hcell:=hT.2 op.toNat (by omega)
    have HT:Hid (textF op=texts.getD op.toNat []):=Lib.hid rfl
    go_enter Tryz.func170,Tryz.ntmps170
    go_wp2
    go_ret
    exact ⟨by rw [HT.out,List.getD_eq_getElem?_getD];rfl,rfl⟩
end Go.Proofs.YtbkdappgmcebaaaGreatDoor.Num
end
