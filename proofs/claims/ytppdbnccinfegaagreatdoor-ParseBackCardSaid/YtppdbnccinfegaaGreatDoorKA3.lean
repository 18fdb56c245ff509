/- Part 4 of the proof: what is used of the texts NumA, NumC. -/
import Derived.Test.YtppdbnccinfegaaGreatDoorRows
import Derived.WalkKit
import Derived.WalkLawsBesides
import Derived.WalkMore
import Derived.Scope
import Derived.ScopeJumps
import Derived.Outline
import Derived.Lib.Hide
import Derived.LoopTactic
import Derived.Below
import Derived.Laws.BitsAllLaws
import Derived.Lib.LaidTab
import Derived.Laws.Tables
section
namespace Go.Proofs.YtppdbnccinfegaaGreatDoor.Num
open Go.RowKit
def b2 (b:Bool):Int:=if b then 1 else 0
section
variable {Q : Exit → Act → World → Prop} {J : Act → World → Prop} {a : Act} {w : World} {l : Nat}
end
theorem truth_any (b:Bool) (w:World) :
    Calls Tryz.prog 207 #[.bool b] w fun e w'=>e = .returned (.int .u64 (b2 b))/\w=w':=by
  cases b
  all_goals
    go_enter Tryz.func207,Tryz.ntmps207
    go_wp2
    go_ret
    exact ⟨rfl,rfl⟩
def doF (op a b:Int):Int :=
  if op=1 then b2 (a == b) else if op=2 then b2 (a != b) else if op=3 then b2 (decide (a<b)) else if op=4 then b2 (decide (a<=b))
  else if op=5 then IntKind.u64.wrap (a+b) else if op=6 then IntKind.u64.wrap (a - b)
  else if op=7 then bits .or .u64 a b else if op=8 then bits .xor .u64 a b else if op=9 then IntKind.u64.wrap (a * b)
  else if op=10 then (if b=0 then 0 else a / b) else if op=11 then (if b=0 then 0 else a % b) else if op=12 then bits .and .u64 a b else 0
theorem do_cmp (op:Int) (hop:op=1 \/ op=2 \/ op=3 \/ op=4) (a b:Int) (w:World) :
    Calls Tryz.prog 115 #[.int .u8 op,.int .u64 a,.int .u64 b] w fun e w'=>e = .returned (.int .u64 (doF op a b))/\w=w':=by
  rcases hop with rfl | rfl | rfl | rfl
  all_goals
    go_enter Tryz.func115,Tryz.ntmps115
    go_wp2
    go_step3
    go_wp2_with (go_at_call 207;refine (truth_any _ _).mono ?_;rintro e w' ⟨rfl,rfl⟩)
    rw [Exit.noGoto_ret]
    go_ret
    exact ⟨rfl,rfl⟩
theorem ret_int {k:IntKind} {a b:Int} (h:a=b):Ending.returned (.int k a) = .returned (.int k b):=by rw [h]
def sidesF (op:Int):Int:=if 1<=op/\op<=12 then 2 else if op=13 \/ op=14 then 1 else 0
theorem sidesF_2 {op:Int} (h1:1<=op) (h2:op<=12):2=sidesF op:=by unfold sidesF;rw [if_pos ⟨h1,h2⟩]
theorem sidesF_0 {op:Int} (h:op<1 \/ 14<op):0=sidesF op:=by unfold sidesF;rw [if_neg (by omega),if_neg (by omega)]
theorem sides_any (op:Int) (w:World) :
    Calls Tryz.prog 264 #[.int .u8 op] w fun e w'=>e = .returned (.int .i64 (sidesF op))/\w=w':=by
  by_cases h1:op<1
  · go_enter Tryz.func264,Tryz.ntmps264
    have e1:(op == 13)=false:=beq_eq_false_iff_ne.2 (by omega)
    have e2:(op == 14)=false:=beq_eq_false_iff_ne.2 (by omega)
    go_wp2
    go_ret
    exact ⟨ret_int (sidesF_0 (.inl h1)),rfl⟩
  · by_cases h2:op<=12
    · go_enter Tryz.func264,Tryz.ntmps264
      go_wp2
      go_ret
      exact ⟨ret_int (sidesF_2 (by omega) h2),rfl⟩
    · by_cases h3:op=13
      · subst h3
        go_enter Tryz.func264,Tryz.ntmps264
        go_wp2
        go_ret
        exact ⟨rfl,rfl⟩
      · by_cases h4:op=14
        · subst h4
          go_enter Tryz.func264,Tryz.ntmps264
          go_wp2
          go_ret
          exact ⟨rfl,rfl⟩
        · have e1:(op == 13)=false:=beq_eq_false_iff_ne.2 h3
          have e2:(op == 14)=false:=beq_eq_false_iff_ne.2 h4
          have h5:14<op:=by omega
          clear h3 h4
          go_enter Tryz.func264,Tryz.ntmps264
          go_wp2
          go_ret
          exact ⟨ret_int (sidesF_0 (.inr h5)),rfl⟩
theorem rsides_any (op:Int) (w:World) :
    Calls Tryz.prog 317 #[.int .u8 op] w fun e w'=>e = .returned (.int .i64 (sidesF op))/\w=w':=by
  by_cases h1:op<1
  · go_enter Tryz.func317,Tryz.ntmps317
    have e1:(op == 13)=false:=beq_eq_false_iff_ne.2 (by omega)
    have e2:(op == 14)=false:=beq_eq_false_iff_ne.2 (by omega)
    go_wp2
    go_ret
    exact ⟨ret_int (sidesF_0 (.inl h1)),rfl⟩
  · by_cases h2:op<=12
    · go_enter Tryz.func317,Tryz.ntmps317
      have e1:(op == 13)=false:=beq_eq_false_iff_ne.2 (by omega)
      have e2:(op == 14)=false:=beq_eq_false_iff_ne.2 (by omega)
      go_wp2
      go_ret
      exact ⟨ret_int (sidesF_2 (by omega) h2),rfl⟩
    · by_cases h3:op=13
      · subst h3
        go_enter Tryz.func317,Tryz.ntmps317
        go_wp2
        go_ret
        exact ⟨rfl,rfl⟩
      · by_cases h4:op=14
        · subst h4
          go_enter Tryz.func317,Tryz.ntmps317
          go_wp2
          go_ret
          exact ⟨rfl,rfl⟩
        · have e1:(op == 13)=false:=beq_eq_false_iff_ne.2 h3
          have e2:(op == 14)=false:=beq_eq_false_iff_ne.2 h4
          have h5:14<op:=by omega
          clear h3 h4
          go_enter Tryz.func317,Tryz.ntmps317
          go_wp2
          go_ret
          exact ⟨ret_int (sidesF_0 (.inr h5)),rfl⟩
end Go.Proofs.YtppdbnccinfegaaGreatDoor.Num
end
section
namespace Go.Proofs.YtppdbnccinfegaaGreatDoor.Num
open Go.RowKit
def strData {H:Type} (zs:List (List UInt8)):DataW H:=.agg (zs.map fun z => .lit (.string z))
def bytesOf (z:List UInt8):ByteArray:=⟨z.toArray⟩
abbrev strVal (z:List UInt8):Value:=.string (bytesOf z)
def StrIs (P:Program) (w:World) (name:String) (zs:List (List UInt8)):Prop:=w.var? P name=some (zs.map strVal).toArray
theorem cells_of_strs {H:Type} {enc:TypeId × Value->H} {P:Program} {w:World} {base:Nat} {sp:Nat->Bool} {held:Bool} {fuel:Nat} {t e:TypeId} {n:Nat} {cs:List Value} {zs:List (List UInt8)} {p:List MemPlace}
    (ht:P.underlying t=some (.array n e)) (he:P.underlying e=some .string) (hce:P.cellsOf e=1) (hct:P.cellsOf t=n)
    (h:DataW.trod enc P w base sp held fuel t cs=some (strData zs,p)):cs=zs.map strVal:=by
  cases fuel with
  | zero=>simp [DataW.trod] at h
  | succ fuel =>
    simp only [DataW.trod,ht,hce,hct,Nat.mul_one] at h
    split at h
    · rename_i hl
      obtain ⟨xs,hm,hx⟩:=Option.map_eq_some_iff.1 h
      have hxs:xs.map (·.1)=zs.map fun z=>(DataW.lit (.string z):DataW H):=by
        have:=congrArg Prod.fst hx
        simpa [strData] using this
      have hxl:xs.length=n:=by simpa using Lib.mapM_length hm
      have hzl:zs.length=n:=by
        have:=congrArg List.length hxs
        simp at this
        omega
      apply List.ext_getElem?
      intro i
      by_cases hi:i<n
      · obtain ⟨b,hb,hf⟩:=Lib.mapM_at hm i i (by simp [hi])
        obtain ⟨s,hc,rfl,_⟩:=DataW.trod_string he hf
        have h1:cs[i]? = some (.string s):=by
          have:=congrArg (·[0]?) hc
          simpa [List.getElem?_take,List.getElem?_drop] using this
        have h2:(xs.map (·.1))[i]? = some (DataW.lit (.string s.data.toList):DataW H):=by simp [hb]
        rw [hxs] at h2
        simp only [List.getElem?_map,Option.map_eq_some_iff,DataW.lit.injEq,Lit.string.injEq] at h2
        obtain ⟨z',hz',rfl⟩:=h2
        simp [h1,hz',bytesOf]
      · rw [List.getElem?_eq_none (by omega),List.getElem?_eq_none (by simp;omega)]
    · cases h
theorem StrIs.cell {P:Program} {W:World} {name:String} {zs:List (List UInt8)} {g:Nat} (h:StrIs P W name zs) (hg:P.globalNamed name=some g) (i:Nat) (hi:i<zs.length) :
    W.cell? ⟨g,i,none⟩=some (strVal (zs.getD i [])):=by
  have:=World.var?_cell hg h i
  simpa [List.getD,hi] using this
def texts:List (List UInt8):=[[],[61,61],[33,61],[60],[60,61],[43],[45],[124],[94],[42],[47],[37],[38],[33],[45]]
def textF (op:Int):List UInt8:=texts.getD op.toNat []
theorem textF_none (op:Int) (h:15<=op):textF op=[]:=by
  unfold textF;rw [List.getD_eq_getElem?_getD,List.getElem?_eq_none (by simp [texts];omega)];rfl
def TextsAt (w:World):Prop:=3<w.heap.size/\∀ i:Nat,i<15->w.cell? ⟨3,i,none⟩=some (strVal (texts.getD i []))
theorem TextsAt.below {w w':World} (h:TextsAt w) (hb:Below w.heap.size w w'):TextsAt w' :=
  ⟨Nat.lt_of_lt_of_le h.1 hb.size,fun i hi=>(hb.cell (p:=⟨3,i,none⟩) h.1).trans (h.2 i hi)⟩
theorem text_any (op:Int) (h0:0<=op) (h1:op<=255) (w:World) (hT:TextsAt w) :
    Calls Tryz.prog 263 #[.int .u8 op] w fun e w'=>e = .returned (strVal (textF op))/\w=w':=by
  by_cases h:15<=op
  · have HT:=Lib.hid (textF_none op h)
    go_enter Tryz.func263,Tryz.ntmps263
    go_wp2
    go_ret
    exact ⟨by rw [HT.out];rfl,rfl⟩
  · have hcell:=hT.2 op.toNat (by omega)
    have HT:Hid (textF op=texts.getD op.toNat []):=Lib.hid rfl
    go_enter Tryz.func263,Tryz.ntmps263
    go_wp2
    go_ret
    exact ⟨by rw [HT.out,List.getD_eq_getElem?_getD];rfl,rfl⟩
theorem rtext_val (op:Int) (h:op.toNat<(texts.map strVal).length):(texts.map strVal)[op.toNat]'h=strVal (textF op):=by
  unfold textF
  rw [List.getElem_map,List.getD_eq_getElem?_getD,List.getElem?_eq_getElem (by simpa using h)];rfl
theorem rtext_any (op:Int) (h0:0<=op) (h1:op<=255) (w:World) :
    Calls Tryz.prog 322 #[.int .u8 op] w fun e w'=>e = .returned (strVal (textF op))/\Below w.heap.size w w':=by
  by_cases h:15<=op
  · have HT:=Lib.hid (textF_none op h)
    go_enter Tryz.func322,Tryz.ntmps322
    go_wp2
    go_ret
    exact ⟨by rw [HT.out];rfl,(Below.refl _ _).alloc (Nat.le_refl _) _⟩
  · have hl:op.toNat<(texts.map strVal).length:=by simp [texts];omega
    have HT:=Lib.hid (rtext_val op hl)
    go_enter Tryz.func322,Tryz.ntmps322
    go_wp2
    go_ret
    exact ⟨congrArg Ending.returned HT.out,(Below.refl _ _).alloc (Nat.le_refl _) _⟩
end Go.Proofs.YtppdbnccinfegaaGreatDoor.Num
end
