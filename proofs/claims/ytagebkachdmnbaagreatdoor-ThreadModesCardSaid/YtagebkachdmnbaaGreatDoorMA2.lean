/- Part 3 of the proof: what is used of the texts NumA, NumB, NumC, NumD. -/
import Derived.Test.YtagebkachdmnbaaGreatDoorRows
import Derived.WalkKit
import Derived.WalkLawsBesides
import Derived.WalkMore
import Derived.Scope
import Derived.ScopeJumps
import Derived.Outline
import Derived.Lib.Hide
import Derived.LoopTactic
import Derived.Below
import Derived.Laws.BitsAllLaws
import Derived.Lib.LaidTab
import Derived.Laws.Tables
section
namespace Go.Proofs.YtagebkachdmnbaaGreatDoor.Num
open Go.RowKit
def b2 (b:Bool):Int:=if b then 1 else 0
theorem wp_scope_forward {P:Program} {a:Act} {w:World} {Q:Exit->Act->World->Prop} {c rest:Code} (l:Nat) (hf:findLabel c l=some rest)
    (first:c.wp P (Exit.jump l (fun a' w'=>rest.wp P (Exit.noGoto Q) a' w') Q) a w):(Code.scope c).wp P Q a w :=
  wp_scope_jumps l (fun a' w'=>rest.wp P (Exit.noGoto Q) a' w') (fun _ _=>0) hf first
    (fun _ _ h=>wp_mono h (fun e _ _ hq=>by cases e <;> first | exact hq | exact False.elim hq))
section
variable {Q : Exit → Act → World → Prop} {J : Act → World → Prop} {a : Act} {w : World} {l : Nat}
end
theorem truth_any (b:Bool) (w:World) :
    Calls Tryz.prog 108 #[.bool b] w fun e w'=>e = .returned (.int .u64 (b2 b))/\w=w':=by
  cases b
  all_goals
    go_enter Tryz.func108,Tryz.ntmps108
    go_wp2
    go_ret
    exact ⟨rfl,rfl⟩
def doF (op a b:Int):Int :=
  if op=1 then b2 (a == b) else if op=2 then b2 (a != b) else if op=3 then b2 (decide (a<b)) else if op=4 then b2 (decide (a<=b))
  else if op=5 then IntKind.u64.wrap (a+b) else if op=6 then IntKind.u64.wrap (a - b)
  else if op=7 then bits .or .u64 a b else if op=8 then bits .xor .u64 a b else if op=9 then IntKind.u64.wrap (a * b)
  else if op=10 then (if b=0 then 0 else a / b) else if op=11 then (if b=0 then 0 else a % b) else if op=12 then bits .and .u64 a b else 0
theorem do_pure (op:Int) (hop:op=5 \/ op=6 \/ op=7 \/ op=8 \/ op=9 \/ op=12) (a b:Int) (w:World) :
    Calls Tryz.prog 54 #[.int .u8 op,.int .u64 a,.int .u64 b] w fun e w'=>e = .returned (.int .u64 (doF op a b))/\w=w':=by
  rcases hop with rfl | rfl | rfl | rfl | rfl | rfl
  all_goals
    go_enter Tryz.func54,Tryz.ntmps54
    go_wp2
    go_step3
    go_wp2
    rw [Exit.noGoto_ret]
    go_ret
    exact ⟨rfl,rfl⟩
theorem do_cmp (op:Int) (hop:op=1 \/ op=2 \/ op=3 \/ op=4) (a b:Int) (w:World) :
    Calls Tryz.prog 54 #[.int .u8 op,.int .u64 a,.int .u64 b] w fun e w'=>e = .returned (.int .u64 (doF op a b))/\w=w':=by
  rcases hop with rfl | rfl | rfl | rfl
  all_goals
    go_enter Tryz.func54,Tryz.ntmps54
    go_wp2
    go_step3
    go_wp2_with (go_at_call 108;refine (truth_any _ _).mono ?_;rintro e w' ⟨rfl,rfl⟩)
    rw [Exit.noGoto_ret]
    go_ret
    exact ⟨rfl,rfl⟩
theorem ret_int {k:IntKind} {a b:Int} (h:a=b):Ending.returned (.int k a) = .returned (.int k b):=by rw [h]
theorem doF_10 (a b:Int) (h:0<b):a / b=doF 10 a b:=by
  have:b≠0:=by omega
  simp [doF,this]
theorem doF_11 (a b:Int) (h:0<b):a % b=doF 11 a b:=by
  have:b≠0:=by omega
  simp [doF,this]
theorem do_div (op:Int) (hop:op=10 \/ op=11) (a b:Int) (h1:0<=a) (_h2:a<18446744073709551616) (h3:0<b) (w:World) :
    Calls Tryz.prog 54 #[.int .u8 op,.int .u64 a,.int .u64 b] w fun e w'=>e = .returned (.int .u64 (doF op a b))/\w=w':=by
  rcases hop with rfl | rfl
  all_goals
    go_enter Tryz.func54,Tryz.ntmps54
    go_wp2
    go_step3
    go_wp2
    rw [Exit.noGoto_ret]
    go_ret
    first | exact ⟨ret_int (doF_10 a b h3),rfl⟩ | exact ⟨ret_int (doF_11 a b h3),rfl⟩
theorem do_zero (op:Int) (hop:op=10 \/ op=11) (a:Int) (w:World) :
    Calls Tryz.prog 54 #[.int .u8 op,.int .u64 a,.int .u64 0] w fun e w'=>e = .returned (.int .u64 (doF op a 0))/\w=w':=by
  rcases hop with rfl | rfl
  all_goals
    go_enter Tryz.func54,Tryz.ntmps54
    go_wp2
    refine wp_scope_forward 0 rfl ?_
    go_wp2
    go_step3
    refine ⟨rfl,?_⟩
    go_wp2
    rw [Exit.noGoto_ret]
    go_ret
    exact ⟨rfl,rfl⟩
theorem do_none (op:Int) (hop:op<1 \/ 12<op) (a b:Int) (w:World) :
    Calls Tryz.prog 54 #[.int .u8 op,.int .u64 a,.int .u64 b] w fun e w'=>e = .returned (.int .u64 (doF op a b))/\w=w':=by
  have hz:doF op a b=0:=by
    unfold doF;repeat rw [if_neg (by omega)]
  have HZ:=Lib.hid hz;clear hz
  rcases hop with h | h
  all_goals
    go_enter Tryz.func54,Tryz.ntmps54
    go_wp2
    go_step3
    go_wp2
    go_step3
    go_wp2
    rw [Exit.noGoto_ret]
    go_ret
    exact ⟨ret_int HZ.out.symm,rfl⟩
theorem do_any (op a b:Int) (ha:0<=a) (ha':a<18446744073709551616) (hb:0<=b) (w:World) :
    Calls Tryz.prog 54 #[.int .u8 op,.int .u64 a,.int .u64 b] w fun e w'=>e = .returned (.int .u64 (doF op a b))/\w=w':=by
  by_cases h1:op<1 \/ 12<op
  · exact do_none op h1 a b w
  · by_cases h2:op=10 \/ op=11
    · by_cases h3:b=0
      · subst h3;exact do_zero op h2 a w
      · exact do_div op h2 a b ha ha' (by omega) w
    · by_cases h4:op<=4
      · exact do_cmp op (by omega) a b w
      · exact do_pure op (by omega) a b w
def oneF (op a:Int):Int:=if op=13 then b2 (a == 0) else if op=14 then IntKind.u64.wrap (-a) else 0
theorem one_any (op a:Int) (w:World) :
    Calls Tryz.prog 225 #[.int .u8 op,.int .u64 a] w fun e w'=>e = .returned (.int .u64 (oneF op a))/\w=w':=by
  by_cases h13:op=13
  · subst h13
    go_enter Tryz.func225,Tryz.ntmps225
    go_wp2_with (go_at_call 108;refine (truth_any _ _).mono ?_;rintro e w' ⟨rfl,rfl⟩)
    go_ret
    exact ⟨rfl,rfl⟩
  · by_cases h14:op=14
    · subst h14
      go_enter Tryz.func225,Tryz.ntmps225
      go_wp2
      go_ret
      exact ⟨rfl,rfl⟩
    · have HZ:Hid (oneF op a=0):=Lib.hid (by unfold oneF;rw [if_neg h13,if_neg h14])
      have e1:(op == 13)=false:=beq_eq_false_iff_ne.2 h13
      have e2:(op == 14)=false:=beq_eq_false_iff_ne.2 h14
      clear h13 h14
      go_enter Tryz.func225,Tryz.ntmps225
      go_wp2
      go_ret
      exact ⟨ret_int HZ.out.symm,rfl⟩
def sidesF (op:Int):Int:=if 1<=op/\op<=12 then 2 else if op=13 \/ op=14 then 1 else 0
theorem sidesF_2 {op:Int} (h1:1<=op) (h2:op<=12):2=sidesF op:=by unfold sidesF;rw [if_pos ⟨h1,h2⟩]
theorem sidesF_0 {op:Int} (h:op<1 \/ 14<op):0=sidesF op:=by unfold sidesF;rw [if_neg (by omega),if_neg (by omega)]
theorem sides_any (op:Int) (w:World) :
    Calls Tryz.prog 224 #[.int .u8 op] w fun e w'=>e = .returned (.int .i64 (sidesF op))/\w=w':=by
  by_cases h1:op<1
  · go_enter Tryz.func224,Tryz.ntmps224
    have e1:(op == 13)=false:=beq_eq_false_iff_ne.2 (by omega)
    have e2:(op == 14)=false:=beq_eq_false_iff_ne.2 (by omega)
    go_wp2
    go_ret
    exact ⟨ret_int (sidesF_0 (.inl h1)),rfl⟩
  · by_cases h2:op<=12
    · go_enter Tryz.func224,Tryz.ntmps224
      go_wp2
      go_ret
      exact ⟨ret_int (sidesF_2 (by omega) h2),rfl⟩
    · by_cases h3:op=13
      · subst h3
        go_enter Tryz.func224,Tryz.ntmps224
        go_wp2
        go_ret
        exact ⟨rfl,rfl⟩
      · by_cases h4:op=14
        · subst h4
          go_enter Tryz.func224,Tryz.ntmps224
          go_wp2
          go_ret
          exact ⟨rfl,rfl⟩
        · have e1:(op == 13)=false:=beq_eq_false_iff_ne.2 h3
          have e2:(op == 14)=false:=beq_eq_false_iff_ne.2 h4
          have h5:14<op:=by omega
          clear h3 h4
          go_enter Tryz.func224,Tryz.ntmps224
          go_wp2
          go_ret
          exact ⟨ret_int (sidesF_0 (.inr h5)),rfl⟩
end Go.Proofs.YtagebkachdmnbaaGreatDoor.Num
end
section
namespace Go.Proofs.YtagebkachdmnbaaGreatDoor.Num
open Go.RowKit
def gk (k x y:Nat):Nat:=if k=0 then (if x+y > 0 then 1 else 0) else if k=1 then (if x=y then 0 else 1) else (if x+y=2 then 1 else 0)
theorem nat_of {a:Int} (h:0<=a):∃ A:Nat,a=(A:Int):=⟨a.toNat,by omega⟩
end Go.Proofs.YtagebkachdmnbaaGreatDoor.Num
end
section
namespace Go.Proofs.YtagebkachdmnbaaGreatDoor.Num
open Go.RowKit
def strData {H:Type} (zs:List (List UInt8)):DataW H:=.agg (zs.map fun z => .lit (.string z))
def bytesOf (z:List UInt8):ByteArray:=⟨z.toArray⟩
abbrev strVal (z:List UInt8):Value:=.string (bytesOf z)
def StrIs (P:Program) (w:World) (name:String) (zs:List (List UInt8)):Prop:=w.var? P name=some (zs.map strVal).toArray
theorem cells_of_strs {H:Type} {enc:TypeId × Value->H} {P:Program} {w:World} {base:Nat} {sp:Nat->Bool} {held:Bool} {fuel:Nat} {t e:TypeId} {n:Nat} {cs:List Value} {zs:List (List UInt8)} {p:List MemPlace}
    (ht:P.underlying t=some (.array n e)) (he:P.underlying e=some .string) (hce:P.cellsOf e=1) (hct:P.cellsOf t=n)
    (h:DataW.trod enc P w base sp held fuel t cs=some (strData zs,p)):cs=zs.map strVal:=by
  cases fuel with
  | zero=>simp [DataW.trod] at h
  | succ fuel =>
    simp only [DataW.trod,ht,hce,hct,Nat.mul_one] at h
    split at h
    · rename_i hl
      obtain ⟨xs,hm,hx⟩:=Option.map_eq_some_iff.1 h
      have hxs:xs.map (·.1)=zs.map fun z=>(DataW.lit (.string z):DataW H):=by
        have:=congrArg Prod.fst hx
        simpa [strData] using this
      have hxl:xs.length=n:=by simpa using Lib.mapM_length hm
      have hzl:zs.length=n:=by
        have:=congrArg List.length hxs
        simp at this
        omega
      apply List.ext_getElem?
      intro i
      by_cases hi:i<n
      · obtain ⟨b,hb,hf⟩:=Lib.mapM_at hm i i (by simp [hi])
        obtain ⟨s,hc,rfl,_⟩:=DataW.trod_string he hf
        have h1:cs[i]? = some (.string s):=by
          have:=congrArg (·[0]?) hc
          simpa [List.getElem?_take,List.getElem?_drop] using this
        have h2:(xs.map (·.1))[i]? = some (DataW.lit (.string s.data.toList):DataW H):=by simp [hb]
        rw [hxs] at h2
        simp only [List.getElem?_map,Option.map_eq_some_iff,DataW.lit.injEq,Lit.string.injEq] at h2
        obtain ⟨z',hz',rfl⟩:=h2
        simp [h1,hz',bytesOf]
      · rw [List.getElem?_eq_none (by omega),List.getElem?_eq_none (by simp;omega)]
    · cases h
theorem StrIs.cell {P:Program} {W:World} {name:String} {zs:List (List UInt8)} {g:Nat} (h:StrIs P W name zs) (hg:P.globalNamed name=some g) (i:Nat) (hi:i<zs.length) :
    W.cell? ⟨g,i,none⟩=some (strVal (zs.getD i [])):=by
  have:=World.var?_cell hg h i
  simpa [List.getD,hi] using this
def texts:List (List UInt8):=[[],[61,61],[33,61],[60],[60,61],[43],[45],[124],[94],[42],[47],[37],[38],[33],[45]]
def textF (op:Int):List UInt8:=texts.getD op.toNat []
theorem textF_none (op:Int) (h:15<=op):textF op=[]:=by
  unfold textF;rw [List.getD_eq_getElem?_getD,List.getElem?_eq_none (by simp [texts];omega)];rfl
def TextsAt (w:World):Prop:=5<w.heap.size/\∀ i:Nat,i<15->w.cell? ⟨5,i,none⟩=some (strVal (texts.getD i []))
theorem TextsAt.below {w w':World} (h:TextsAt w) (hb:Below w.heap.size w w'):TextsAt w' :=
  ⟨Nat.lt_of_lt_of_le h.1 hb.size,fun i hi=>(hb.cell (p:=⟨5,i,none⟩) h.1).trans (h.2 i hi)⟩
theorem text_any (op:Int) (h0:0<=op) (h1:op<=255) (w:World) (hT:TextsAt w) :
    Calls Tryz.prog 285 #[.int .u8 op] w fun e w'=>e = .returned (strVal (textF op))/\w=w':=by
  by_cases h:15<=op
  · have HT:=Lib.hid (textF_none op h)
    go_enter Tryz.func285,Tryz.ntmps285
    go_wp2
    go_ret
    exact ⟨by rw [HT.out];rfl,rfl⟩
  · have hcell:=hT.2 op.toNat (by omega)
    have HT:Hid (textF op=texts.getD op.toNat []):=Lib.hid rfl
    go_enter Tryz.func285,Tryz.ntmps285
    go_wp2
    go_ret
    exact ⟨by rw [HT.out,List.getD_eq_getElem?_getD];rfl,rfl⟩
theorem b2_u64 (b:Bool):0<=b2 b/\b2 b<18446744073709551616:=by cases b <;> decide
end Go.Proofs.YtagebkachdmnbaaGreatDoor.Num
end
section
namespace Go.Proofs.YtagebkachdmnbaaGreatDoor.Num
open Go.RowKit
theorem wrap_bd (n:Int):0<=IntKind.u64.wrap n/\IntKind.u64.wrap n<18446744073709551616:=by rw [IntKind.wrap_u64];omega
def Ok64 (r:Int):Prop:=0<=r/\r<18446744073709551616
theorem ite_ok {c:Prop} [Decidable c] {a b:Int} (ha:c->Ok64 a) (hb:¬ c->Ok64 b):Ok64 (if c then a else b):=by
  by_cases h:c
  · rw [if_pos h];exact ha h
  · rw [if_neg h];exact hb h
theorem ok_zero:Ok64 0:=⟨by omega,by omega⟩
theorem doF_bd (op a b:Int) (ha:0<=a) (ha':a<18446744073709551616) (hb:0<=b) (hb':b<18446744073709551616) :
    0<=doF op a b/\doF op a b<18446744073709551616:=by
  obtain ⟨A,rfl⟩:=nat_of ha
  obtain ⟨B,rfl⟩:=nat_of hb
  have h7:bits .or .u64 (A:Int) (B:Int)=((A ||| B:Nat):Int):=u64_or_nat A B (by omega) (by omega)
  have h8:bits .xor .u64 (A:Int) (B:Int)=((A ^^^ B:Nat):Int):=u64_xor_nat A B (by omega) (by omega)
  have h12:bits .and .u64 (A:Int) (B:Int)=((A &&& B:Nat):Int):=u64_and_nat A B (by omega) (by omega)
  have l7:(A ||| B:Nat)<18446744073709551616:=Nat.or_lt_two_pow (n:=64) (by omega) (by omega)
  have l8:(A ^^^ B:Nat)<18446744073709551616:=Nat.xor_lt_two_pow (n:=64) (by omega) (by omega)
  have l12:(A &&& B:Nat)<18446744073709551616:=Nat.and_lt_two_pow (n:=64) A (by omega)
  have hd:¬ (B:Int)=0->0<=(A:Int) / B/\(A:Int) / B<18446744073709551616:=fun h =>
    ⟨Int.ediv_nonneg (by omega) (by omega),Int.lt_of_le_of_lt (Int.ediv_le_self _ (by omega)) ha'⟩
  have hr:¬ (B:Int)=0->0<=(A:Int) % B/\(A:Int) % B<18446744073709551616:=fun h =>
    ⟨Int.emod_nonneg _ h,by have:=Int.emod_lt_of_pos (A:Int) (show (0:Int)<B by omega);omega⟩
  unfold doF
  simp only [h7,h8,h12]
  show Ok64 _
  repeat' (first | exact b2_u64 _ | exact wrap_bd _ | exact hd ‹_› | exact hr ‹_› | exact ok_zero | exact ⟨by omega,by omega⟩ | refine ite_ok (fun _=>?_) (fun _=>?_))
theorem oneF_bd (op a:Int):0<=oneF op a/\oneF op a<18446744073709551616:=by
  unfold oneF
  show Ok64 _
  repeat' (first | exact b2_u64 _ | exact wrap_bd _ | exact ok_zero | refine ite_ok (fun _=>?_) (fun _=>?_))
end Go.Proofs.YtagebkachdmnbaaGreatDoor.Num
end
