/- Part 4 of the proof: what is used of the texts ExprS, ExprT, ExprA, ExprB, ExprC. -/
import Derived.KernelRfl
import Derived.Lib.ItoaNum
import Derived.Test.YtagebkachdmnbaaGreatDoorEA1
import Derived.Test.YtagebkachdmnbaaGreatDoorEA2
import Derived.Test.YtagebkachdmnbaaGreatDoorEA0
import Derived.Lib.ItoaMem
import Derived.Lib.ItoaLen
import Derived.Lib.AppendIntMem
import Derived.Laws.StructEq
import Derived.Laws.Pointers
import Derived.LaidEqlPtr
import Derived.Deep.RegionHeld3
section
namespace Go.Proofs.YtagebkachdmnbaaGreatDoor.Expr
structure It where
  kind:Nat
  op:Nat
  n:Nat
  t:Nat
  i:Nat
  x:Nat
deriving DecidableEq
inductive Tr
  | nil
  | node (a:It) (l r:Tr)
deriving DecidableEq
inductive Ex
  | num (n:Nat)
  | reg (i:Nat)
  | of (t i:Nat)
  | loc (x:Nat)
  | one (op:Nat) (a:Ex)
  | two (op:Nat) (a b:Ex)
deriving DecidableEq
def Tr.isNil:Tr->Bool
  | .nil=>true
  | .node _ _ _=>false
def sides (op:Nat):Nat:=if 1<=op/\op<=12 then 2 else if op=13 \/ op=14 then 1 else 0
def leafOk (a:It):Bool :=
  if a.kind=0 then true
  else if a.kind=1 then decide (a.i<8)
  else if a.kind=2 then decide (a.t<4) && decide (a.i<8)
  else if a.kind=3 then decide (97<=a.x) && decide (a.x<=122) && decide (a.x≠114)
  else false
def bare (a:It) (l r:Tr):Bool :=
  (decide (a.op=0) || (a.kind == 4 || a.kind == 5)) && (decide (a.n=0) || a.kind == 0) && (decide (a.t=0) || a.kind == 2) && (decide (a.i=0) || (a.kind == 1 || a.kind == 2)) &&
    (decide (a.x=0) || a.kind == 3) && (l.isNil || (a.kind == 4 || a.kind == 5)) && (r.isNil || a.kind == 5)
def fitsF:Tr->Nat->Bool
  | .nil,_=>false
  | .node _ _ _,0=>false
  | .node a l r,room+1=>(if a.kind=4 then decide (sides a.op=1) && fitsF l room else if a.kind=5 then decide (sides a.op=2) && fitsF l room && fitsF r room else leafOk a) && bare a l r
def deepF:Tr->Nat->Nat
  | .nil,_=>0
  | .node _ _ _,0=>0
  | .node _ l r,m+1=>1+max (deepF l m) (deepF r m)
def treeOf:Ex->Tr
  | .num n => .node ⟨0,0,n,0,0,0⟩ .nil .nil
  | .reg i => .node ⟨1,0,0,0,i,0⟩ .nil .nil
  | .of t i => .node ⟨2,0,0,t,i,0⟩ .nil .nil
  | .loc x => .node ⟨3,0,0,0,0,x⟩ .nil .nil
  | .one op a => .node ⟨4,op,0,0,0,0⟩ (treeOf a) .nil
  | .two op a b => .node ⟨5,op,0,0,0,0⟩ (treeOf a) (treeOf b)
def Ex.depth:Ex->Nat
  | .one _ a=>a.depth+1
  | .two _ a b=>max a.depth b.depth+1
  | _=>1
def Ex.ok:Ex->Prop
  | .num n=>n<18446744073709551616
  | .reg i=>i<8
  | .of t i=>t<4/\i<8
  | .loc x=>97<=x/\x<=122/\x≠114
  | .one op a=>(op=13 \/ op=14)/\a.ok
  | .two op a b=>1<=op/\op<=12/\a.ok/\b.ok
theorem depth_pos (e:Ex):1<=e.depth:=by cases e <;> simp [Ex.depth]
theorem sides_one {op:Nat}:sides op=1 ↔ op=13 \/ op=14:=by
  unfold sides
  by_cases h:1<=op/\op<=12
  · rw [if_pos h];omega
  · rw [if_neg h]
    by_cases h2:op=13 \/ op=14
    · rw [if_pos h2];simp [h2]
    · rw [if_neg h2];simp [h2]
theorem sides_two {op:Nat}:sides op=2 ↔ 1<=op/\op<=12:=by
  unfold sides
  by_cases h:1<=op/\op<=12
  · rw [if_pos h];simp [h]
  · rw [if_neg h]
    by_cases h2:op=13 \/ op=14
    · rw [if_pos h2];simp [h]
    · rw [if_neg h2];simp [h]
theorem fits_of (e:Ex) (h:e.ok):∀ room,e.depth<=room->fitsF (treeOf e) room=true:=by
  induction e with
  | one op a ih =>
    intro room hr
    obtain ⟨m,rfl⟩:∃ m,room=m+1:=⟨room - 1,by simp only [Ex.depth] at hr;omega⟩
    have h1:sides op=1:=sides_one.2 h.1
    simp only [Ex.depth] at hr
    simp [treeOf,fitsF,bare,h1,ih h.2 m (by omega),Tr.isNil]
  | two op a b iha ihb =>
    intro room hr
    obtain ⟨m,rfl⟩:∃ m,room=m+1:=⟨room - 1,by simp only [Ex.depth] at hr;omega⟩
    have h1:sides op=2:=sides_two.2 ⟨h.1,h.2.1⟩
    simp only [Ex.depth] at hr
    simp [treeOf,fitsF,bare,h1,iha h.2.2.1 m (by omega),ihb h.2.2.2 m (by omega)]
  | num n =>
    intro room hr
    obtain ⟨m,rfl⟩:∃ m,room=m+1:=⟨room - 1,by simp only [Ex.depth] at hr;omega⟩
    simp [treeOf,fitsF,bare,leafOk,Tr.isNil]
  | reg i =>
    intro room hr
    obtain ⟨m,rfl⟩:∃ m,room=m+1:=⟨room - 1,by simp only [Ex.depth] at hr;omega⟩
    have h1:i<8:=h
    simp only [treeOf,fitsF,bare,leafOk,Tr.isNil]
    simpa using h1
  | of t i =>
    intro room hr
    obtain ⟨m,rfl⟩:∃ m,room=m+1:=⟨room - 1,by simp only [Ex.depth] at hr;omega⟩
    have h1:t<4/\i<8:=h
    simp only [treeOf,fitsF,bare,leafOk,Tr.isNil]
    simpa using h1
  | loc x =>
    intro room hr
    obtain ⟨m,rfl⟩:∃ m,room=m+1:=⟨room - 1,by simp only [Ex.depth] at hr;omega⟩
    have h1:97<=x/\x<=122/\x≠114:=h
    simp [treeOf,fitsF,bare,leafOk,Tr.isNil,h1]
theorem deepF_le:∀ (t:Tr) (m:Nat),deepF t m<=m:=by
  intro t
  induction t with
  | nil=>intro m;simp [deepF]
  | node a l r ihl ihr =>
    intro m
    cases m with
    | zero=>simp [deepF]
    | succ m=>have:=ihl m;have:=ihr m;simp only [deepF];omega
inductive Sp (l:List It):Nat->Ex->Nat->Prop
  | num {k a}:l[k]? = some a->a.kind=0->Sp l k (.num a.n) (k+1)
  | reg {k a}:l[k]? = some a->a.kind=1->a.i<8->Sp l k (.reg a.i) (k+1)
  | of {k a}:l[k]? = some a->a.kind=2->a.t<4->a.i<8->Sp l k (.of a.t a.i) (k+1)
  | loc {k a}:l[k]? = some a->a.kind=3->97<=a.x->a.x<=122->a.x≠114->Sp l k (.loc a.x) (k+1)
  | one {k a e m}:l[k]? = some a->a.kind=4->(a.op=13 \/ a.op=14)->Sp l (k+1) e m->Sp l k (.one a.op e) m
  | two {k a e f m j}:l[k]? = some a->a.kind=5->1<=a.op->a.op<=12->Sp l (k+1) e m->Sp l m f j->Sp l k (.two a.op e f) j
def leafE (a:It):Ex:=if a.kind=0 then .num a.n else if a.kind=1 then .reg a.i else if a.kind=2 then .of a.t a.i else .loc a.x
def sign (op:Nat):List UInt8 :=
  [[],[61,61],[33,61],[60],[60,61],[43],[45],[124],[94],[42],[47],[37],[38],[33],[45]].getD op []
def strongOp (op:Nat):Nat:=if 1<=op/\op<=4 then 1 else if 5<=op/\op<=8 then 2 else if 9<=op/\op<=12 then 3 else if op=13 \/ op=14 then 4 else 0
def Ex.strong:Ex->Nat
  | .one op _=>strongOp op
  | .two op _ _=>strongOp op
  | _=>5
def dec (n:Nat):List UInt8:=Lib.decDigits n
def Ex.val {κ:Type} (one:Nat->Int->Int) (two:Nat->Int->Int->Int) (lf:κ->Ex->Int × κ):Ex->κ->Int × κ
  | .num n,k=>(n,k)
  | .one op a,k=>(one op (a.val one two lf k).1,(a.val one two lf k).2)
  | .two op a b,k=>(two op (a.val one two lf k).1 (b.val one two lf (a.val one two lf k).2).1,(b.val one two lf (a.val one two lf k).2).2)
  | e,k=>lf k e
def Ex.isLeaf:Ex->Bool
  | .one _ _=>false
  | .two _ _ _=>false
  | _=>true
def lesser (l:List It):List Ex:=(l.filter fun a=>decide (a.kind<4)).map leafE
end Go.Proofs.YtagebkachdmnbaaGreatDoor.Expr
end
section
namespace Go.Proofs.YtagebkachdmnbaaGreatDoor.Expr
def isDig (c:UInt8):Bool:=decide (48<=c.toNat) && decide (c.toNat<=57)
def spell (l:List UInt8):Nat:=l.foldl (fun n c=>10 * n+(c.toNat - 48)) 0
theorem dec_spell (n:Nat):(∀ c ∈ dec n,isDig c=true)/\spell (dec n)=n/\dec n ≠ []:=by
  induction n using Nat.strongRecOn with
  | ind n ih =>
    have one:∀ d,d<10->isDig (UInt8.ofNat (48+d))=true/\(UInt8.ofNat (48+d)).toNat - 48=d:=fun d hd=>by
      have e:(UInt8.ofNat (48+d)).toNat=48+d:=by rw [UInt8.toNat_ofNat'];omega
      refine ⟨?_,by rw [e];omega⟩
      unfold isDig;rw [e];simp;omega
    unfold dec
    rw [Lib.decDigits.eq_def]
    by_cases h:n<10
    · rw [dif_pos h]
      refine ⟨fun c hc=>?_,?_,by simp⟩
      · rw [List.mem_singleton] at hc;rw [hc];exact (one n h).1
      · show 10 * 0+((UInt8.ofNat (48+n)).toNat - 48)=n
        rw [(one n h).2];omega
    · rw [dif_neg h]
      obtain ⟨i1,i2,i3⟩:=ih (n / 10) (by omega)
      unfold dec at i1 i2 i3
      refine ⟨fun c hc=>?_,?_,by simp⟩
      · rcases List.mem_append.1 hc with hc | hc
        · exact i1 c hc
        · rw [List.mem_singleton] at hc;rw [hc];exact (one (n % 10) (by omega)).1
      · unfold spell at i2 ⊢
        rw [List.foldl_append,i2]
        show 10 * (n / 10)+((UInt8.ofNat (48+n % 10)).toNat - 48)=n
        rw [(one (n % 10) (by omega)).2];omega
def digits (l:List UInt8):List UInt8:=l.takeWhile isDig
theorem strong_pos {op:Nat} (h1:1<=op) (h2:op<=12):1<=strongOp op/\strongOp op<=3:=by
  unfold strongOp
  by_cases a:1<=op/\op<=4
  · rw [if_pos a];omega
  · rw [if_neg a]
    by_cases b:5<=op/\op<=8
    · rw [if_pos b];omega
    · rw [if_neg b,if_pos (by omega)];omega
theorem dec_cons (n:Nat):∃ c d,dec n=c :: d/\isDig c=true:=by
  obtain ⟨d1,d2,d3⟩:=dec_spell n
  cases hd:dec n with
  | nil=>exact absurd hd d3
  | cons c d=>exact ⟨c,d,rfl,d1 c (by rw [hd];exact List.mem_cons_self)⟩
theorem one_strong {op:Nat} (h:op=13 \/ op=14):strongOp op=4:=by rcases h with rfl | rfl <;> rfl
end Go.Proofs.YtagebkachdmnbaaGreatDoor.Expr
end
section
namespace Go.Proofs.YtagebkachdmnbaaGreatDoor.Expr
open Go.RowKit Go.Proofs.YtagebkachdmnbaaGreatDoor.Mem Go.Lib
def str (l:List UInt8):ByteArray:=⟨l.toArray⟩
def PowAt (_:World):Prop:=True
theorem PowAt.below {w w':World} (_:PowAt w) (_:Below w.heap.size w w'):PowAt w':=trivial
def Tabs (w:World):Prop:=Num.TextsAt w/\PowAt w
theorem Tabs.below {w w':World} (h:Tabs w) (hb:Below w.heap.size w w'):Tabs w':=⟨h.1.below hb,h.2.below hb⟩
def exprCells (a:It) (lv rv:Value):Array Value:=#[.int .u8 a.kind,.int .u8 a.op,.int .u64 a.n,.int .u8 a.t,.int .u8 a.i,.int .u8 a.x,lv,rv]
def leafIt:Ex->It
  | .num n=>⟨0,0,n,0,0,0⟩
  | .reg i=>⟨1,0,0,0,i,0⟩
  | .of t i=>⟨2,0,0,t,i,0⟩
  | .loc x=>⟨3,0,0,0,0,x⟩
  | .one op _=>⟨4,op,0,0,0,0⟩
  | .two op _ _=>⟨5,op,0,0,0,0⟩
def leafVal (e:Ex):Value:=.agg (exprCells (leafIt e) (.pointer none) (.pointer none))
theorem strength_any (op:Nat) (w:World) :
    Calls Tryz.prog 230 #[.int .u8 op] w fun e w'=>e = .returned (.int .i64 (strongOp op))/\w=w':=by
  by_cases h1:1<=op/\op<=4
  · have a1:(1:Int)<=(op:Int):=by omega
    have a2:(op:Int)<=4:=by omega
    have e:strongOp op=1:=by unfold strongOp;rw [if_pos h1]
    rw [e];clear e
    go_enter Tryz.func230,Tryz.ntmps230
    go_wp2
    go_ret
    exact ⟨rfl,rfl⟩
  by_cases h2:5<=op/\op<=8
  · have a1:(5:Int)<=(op:Int):=by omega
    have a2:(op:Int)<=8:=by omega
    have e:strongOp op=2:=by unfold strongOp;rw [if_neg h1,if_pos h2]
    rw [e];clear e
    go_enter Tryz.func230,Tryz.ntmps230
    go_wp2
    go_ret
    exact ⟨rfl,rfl⟩
  by_cases h3:9<=op/\op<=12
  · have a1:(9:Int)<=(op:Int):=by omega
    have a2:(op:Int)<=12:=by omega
    have e:strongOp op=3:=by unfold strongOp;rw [if_neg h1,if_neg h2,if_pos h3]
    rw [e];clear e
    go_enter Tryz.func230,Tryz.ntmps230
    go_wp2
    go_ret
    exact ⟨rfl,rfl⟩
  by_cases h13:op=13
  · subst h13
    go_enter Tryz.func230,Tryz.ntmps230
    go_wp2
    go_ret
    exact ⟨rfl,rfl⟩
  by_cases h14:op=14
  · subst h14
    go_enter Tryz.func230,Tryz.ntmps230
    go_wp2
    go_ret
    exact ⟨rfl,rfl⟩
  have e:strongOp op=0:=by unfold strongOp;rw [if_neg h1,if_neg h2,if_neg h3,if_neg (by omega)]
  rw [e];clear e
  have e1:((op:Int) == 13)=false:=beq_eq_false_iff_ne.2 (by omega)
  have e2:((op:Int) == 14)=false:=beq_eq_false_iff_ne.2 (by omega)
  by_cases hz:op=0
  · subst hz
    go_enter Tryz.func230,Tryz.ntmps230
    go_wp2
    go_ret
    exact ⟨rfl,rfl⟩
  · have a1:(14:Int)<(op:Int):=by omega
    go_enter Tryz.func230,Tryz.ntmps230
    go_wp2
    go_ret
    exact ⟨rfl,rfl⟩
theorem sidesF_nat (op:Nat):Num.sidesF (op:Int)=(sides op:Nat):=by
  unfold Num.sidesF sides
  by_cases h:1<=op/\op<=12
  · rw [if_pos h,if_pos (by omega)];rfl
  · rw [if_neg h,if_neg (by omega)]
    by_cases h2:op=13 \/ op=14
    · rw [if_pos h2,if_pos (by omega)];rfl
    · rw [if_neg h2,if_neg (by omega)];rfl
theorem sides_nat (op:Nat) (w:World):Calls Tryz.prog 224 #[.int .u8 op] w fun e w'=>e = .returned (.int .i64 (sides op:Nat))/\w=w':=by
  rw [<- sidesF_nat];exact Num.sides_any op w
end Go.Proofs.YtagebkachdmnbaaGreatDoor.Expr
end
section
namespace Go.Proofs.YtagebkachdmnbaaGreatDoor.Expr
open Go.RowKit Go.Proofs.YtagebkachdmnbaaGreatDoor.Mem Go.Lib
def Tree (w:World):Tr->Value->Prop
  | .nil,v=>v = .pointer none
  | .node a l r,v=>∃ g lv rv,v = .pointer (some ⟨g,0,none⟩)/\Sits w g 204 (exprCells a lv rv)/\Tree w l lv/\Tree w r rv
theorem Tree.stable {w w':World} (hs:Stable 204 w w'):∀ {t:Tr} {v:Value},Tree w t v->Tree w' t v:=by
  intro t
  induction t with
  | nil=>intro v h;exact h
  | node a l r ihl ihr =>
    intro v h
    obtain ⟨g,lv,rv,hv,hg,hl,hr⟩:=h
    exact ⟨g,lv,rv,hv,hs _ _ hg,ihl hl,ihr hr⟩
theorem Tree.below {w w':World} {t:Tr} {v:Value} (h:Tree w t v) (hb:Below w.heap.size w w'):Tree w' t v:=h.stable (Stable.below hb)
theorem Tree.ptr {w:World} {t:Tr} {v:Value} (h:Tree w t v):∃ p:Option Addr,v = .pointer p/\p.isNone=t.isNil:=by
  cases t with
  | nil=>exact ⟨none,h,rfl⟩
  | node a l r=>obtain ⟨g,lv,rv,hv,_⟩:=h;exact ⟨_,hv,rfl⟩
theorem structE:Tryz.prog.underlying 204=some (.struct (Tryz.prog.fieldsOf 204)):=by kernel_rfl
theorem heldE:Tryz.prog.stoodInHeld 204=false:=by kernel_rfl
theorem pointeeE:Tryz.prog.underlying 31=some (.pointer (Tryz.prog.pointee 31)):=by kernel_rfl
theorem ptr_same (p:Option Addr) (W:World):(Op.equalIn 9999 31 (.pointer p) (.pointer p)).run Tryz.prog W = .ok true W:=by
  cases p with
  | none=>exact run_equalIn_pointer_nil W 9998 31 none pointeeE
  | some a =>
    obtain ⟨j,hj⟩:∃ j,Tryz.prog.info? 204=some j:=Option.isSome_iff_exists.1 (show (Tryz.prog.info? 204).isSome=true by kernel_rfl)
    have h:∀ d:Nat,(Op.equalIn (d+1) 31 (.pointer (some a)) (.pointer (some a))).run Tryz.prog W = .ok true W:=fun d=>by
      simp [Op.equalIn,run_underlying Tryz.underlying31,sizeOf,typeInfo,hj,run_sameAddr_same]
    exact h 9998
theorem ptr_nil (p:Option Addr) (W:World):(Op.equalIn 9999 31 (.pointer p) (.pointer none)).run Tryz.prog W = .ok p.isNone W :=
  run_equalIn_pointer_nil W 9998 31 p pointeeE
def eqIt (a b:It):Bool:=decide (a=b)
theorem eq_expr (a b:It) (p q p' q':Option Addr) (bp bq:Bool) (hp:∀ W,(Op.equalIn 9999 31 (.pointer p) (.pointer p')).run Tryz.prog W = .ok bp W)
    (hq:∀ W,(Op.equalIn 9999 31 (.pointer q) (.pointer q')).run Tryz.prog W = .ok bq W) (W:World) :
   (binOp .eql 204 (.agg (exprCells a (.pointer p) (.pointer q))) (.agg (exprCells b (.pointer p') (.pointer q')))).run Tryz.prog W = .ok (.bool (eqIt a b && bp && bq)) W:=by
  have u3:=Tryz.underlying5
  have a3:=Tryz.isAgg5
  have z3:=Tryz.sizeOf5
  have u4:=Tryz.underlying49
  have a4:=Tryz.isAgg49
  have z4:=Tryz.sizeOf49
  have a5:=Tryz.isAgg31
  have z5:=Tryz.sizeOf31
  obtain ⟨k,o,n,t,i,x⟩:=a
  obtain ⟨k',o',n',t',i',x'⟩:=b
  simp only [exprCells]
  rw [run_eql_struct,show (10000:Nat)=9999+1 from rfl,run_equalIn_agg W 9999 204 _ _ structE heldE]
  simp only [Program.fieldsOf,Tryz.underlying204]
  by_cases h:k=k' /\ o=o' /\ n=n' /\ t=t' /\ i=i' /\ x=x'
  · obtain ⟨rfl,rfl,rfl,rfl,rfl,rfl⟩:=h
    simp only [eqIt,decide_true,Bool.true_and]
    go_simp
    cases bp <;> cases bq <;> rfl
  · have e:eqIt ⟨k,o,n,t,i,x⟩ ⟨k',o',n',t',i',x'⟩=false:=by simpa [eqIt] using h
    rw [e]
    go_simp
    intro h1 h2 h3 h4 h5 h6
    exact absurd ⟨by omega,by omega,by omega,by omega,by omega,by omega⟩ h
theorem Sits.all8 {w:World} {g:Nat} {a:It} {lv rv:Value} (h:Sits w g 204 (exprCells a lv rv)) :
    w.cell? ⟨g,0,none⟩=some (.int .u8 a.kind)/\w.cell? ⟨g,1,none⟩=some (.int .u8 a.op)/\w.cell? ⟨g,2,none⟩=some (.int .u64 a.n)/\w.cell? ⟨g,3,none⟩=some (.int .u8 a.t) /\
    w.cell? ⟨g,4,none⟩=some (.int .u8 a.i)/\w.cell? ⟨g,5,none⟩=some (.int .u8 a.x)/\w.cell? ⟨g,6,none⟩=some lv/\w.cell? ⟨g,7,none⟩=some rv :=
  ⟨h.cell 0,h.cell 1,h.cell 2,h.cell 3,h.cell 4,h.cell 5,h.cell 6,h.cell 7⟩
set_option maxRecDepth 100000 in
set_option maxHeartbeats 1000000 in
theorem fits_0 (op n t i x:Nat) (l r:Tr) (room:Nat) (hroom:room<1000) (w:World) (g:Nat) (pl pr:Option Addr) (hg:Sits w g 204 (exprCells ⟨0,op,n,t,i,x⟩ (.pointer pl) (.pointer pr)))
    (hl:pl.isNone=l.isNil) (hr:pr.isNone=r.isNil) :
    Calls Tryz.prog 214 #[.pointer (some ⟨g,0,none⟩),.int .i64 (room+1:Nat)] w fun e w'=>Made (.returned (.bool (fitsF (.node ⟨0,op,n,t,i,x⟩ l r) (room+1)))) w e w':=by
  obtain ⟨q0,q1,q2,q3,q4,q5,q6,q7⟩:=Sits.all8 hg
  simp only at q0 q1 q2 q3 q4 q5
  have hlt:=hg.lt
  have z0:(((room+1:Nat):Int) == 0)=false:=beq_eq_false_iff_ne.2 (by omega)
  have hq:∀ W,(binOp .eql 204 (.agg #[.int .u8 0,.int .u8 op,.int .u64 n,.int .u8 t,.int .u8 i,.int .u8 x,.pointer pl,.pointer pr]) (.agg #[.int .u8 0,.int .u8 0,.int .u64 n,.int .u8 0,.int .u8 0,.int .u8 0,.pointer none,.pointer none])).run Tryz.prog W = .ok (.bool (eqIt ⟨0,op,n,t,i,x⟩ ⟨0,0,n,0,0,0⟩ && pl.isNone && pr.isNone)) W :=
    fun W=>eq_expr ⟨0,op,n,t,i,x⟩ ⟨0,0,n,0,0,0⟩ pl pr none none _ _ (ptr_nil pl) (ptr_nil pr) W
  rw [hl,hr] at hq
  have e:(eqIt ⟨0,op,n,t,i,x⟩ ⟨0,0,n,0,0,0⟩ && l.isNil && r.isNil)=bare ⟨0,op,n,t,i,x⟩ l r:=by
    simp only [eqIt,bare,It.mk.injEq,true_and]
    by_cases a0:op=0 <;> by_cases a1:t=0 <;> by_cases a2:i=0 <;> by_cases a3:x=0 <;> simp [a0,a1,a2,a3]
  rw [e] at hq
  clear e
  clear hl hr hg
  have e:fitsF (.node ⟨0,op,n,t,i,x⟩ l r) (room+1)=bare ⟨0,op,n,t,i,x⟩ l r:=by simp [fitsF,leafOk]
  rw [e];clear e
  generalize bare ⟨0,op,n,t,i,x⟩ l r=b at hq ⊢
  go_enter Tryz.func214,Tryz.ntmps214
  go_wp2_with fail
  go_quiet (fail)
  go_wp2_with fail
  go_ret
  exact ⟨rfl,drewN_below ((Below.refl _ _).alloc (Nat.le_refl _) _) _⟩
set_option maxRecDepth 100000 in
set_option maxHeartbeats 1000000 in
theorem fits_1 (op n t i x:Nat) (l r:Tr) (room:Nat) (hroom:room<1000) (w:World) (g:Nat) (pl pr:Option Addr) (hg:Sits w g 204 (exprCells ⟨1,op,n,t,i,x⟩ (.pointer pl) (.pointer pr)))
    (hl:pl.isNone=l.isNil) (hr:pr.isNone=r.isNil) :
    Calls Tryz.prog 214 #[.pointer (some ⟨g,0,none⟩),.int .i64 (room+1:Nat)] w fun e w'=>Made (.returned (.bool (fitsF (.node ⟨1,op,n,t,i,x⟩ l r) (room+1)))) w e w':=by
  obtain ⟨q0,q1,q2,q3,q4,q5,q6,q7⟩:=Sits.all8 hg
  simp only at q0 q1 q2 q3 q4 q5
  have hlt:=hg.lt
  have z0:(((room+1:Nat):Int) == 0)=false:=beq_eq_false_iff_ne.2 (by omega)
  have hq:∀ W,(binOp .eql 204 (.agg #[.int .u8 1,.int .u8 op,.int .u64 n,.int .u8 t,.int .u8 i,.int .u8 x,.pointer pl,.pointer pr]) (.agg #[.int .u8 1,.int .u8 0,.int .u64 0,.int .u8 0,.int .u8 i,.int .u8 0,.pointer none,.pointer none])).run Tryz.prog W = .ok (.bool (eqIt ⟨1,op,n,t,i,x⟩ ⟨1,0,0,0,i,0⟩ && pl.isNone && pr.isNone)) W :=
    fun W=>eq_expr ⟨1,op,n,t,i,x⟩ ⟨1,0,0,0,i,0⟩ pl pr none none _ _ (ptr_nil pl) (ptr_nil pr) W
  rw [hl,hr] at hq
  have e:(eqIt ⟨1,op,n,t,i,x⟩ ⟨1,0,0,0,i,0⟩ && l.isNil && r.isNil)=bare ⟨1,op,n,t,i,x⟩ l r:=by
    simp only [eqIt,bare,It.mk.injEq,true_and]
    by_cases a0:op=0 <;> by_cases a1:n=0 <;> by_cases a2:t=0 <;> by_cases a3:x=0 <;> simp [a0,a1,a2,a3]
  rw [e] at hq
  clear e
  clear hl hr hg
  by_cases h1:i<8
  · have i1:(i:Int)<8:=by omega
    have e:fitsF (.node ⟨1,op,n,t,i,x⟩ l r) (room+1)=bare ⟨1,op,n,t,i,x⟩ l r:=by simp [fitsF,leafOk,h1]
    rw [e];clear e
    generalize bare ⟨1,op,n,t,i,x⟩ l r=b at hq ⊢
    go_enter Tryz.func214,Tryz.ntmps214
    go_wp2_with fail
    go_quiet (fail)
    go_wp2_with fail
    go_ret
    exact ⟨rfl,drewN_below ((Below.refl _ _).alloc (Nat.le_refl _) _) _⟩
  · have i1:decide ((i:Int)<8)=false:=decide_eq_false (by omega)
    have e:fitsF (.node ⟨1,op,n,t,i,x⟩ l r) (room+1)=false:=by simp [fitsF,leafOk,h1]
    rw [e];clear e
    go_enter Tryz.func214,Tryz.ntmps214
    go_wp2_with fail
    go_quiet (fail)
    go_wp2_with fail
    go_ret
    exact ⟨rfl,drewN_below ((Below.refl _ _).alloc (Nat.le_refl _) _) _⟩
set_option maxRecDepth 100000 in
set_option maxHeartbeats 1000000 in
theorem fits_2 (op n t i x:Nat) (l r:Tr) (room:Nat) (hroom:room<1000) (w:World) (g:Nat) (pl pr:Option Addr) (hg:Sits w g 204 (exprCells ⟨2,op,n,t,i,x⟩ (.pointer pl) (.pointer pr)))
    (hl:pl.isNone=l.isNil) (hr:pr.isNone=r.isNil) :
    Calls Tryz.prog 214 #[.pointer (some ⟨g,0,none⟩),.int .i64 (room+1:Nat)] w fun e w'=>Made (.returned (.bool (fitsF (.node ⟨2,op,n,t,i,x⟩ l r) (room+1)))) w e w':=by
  obtain ⟨q0,q1,q2,q3,q4,q5,q6,q7⟩:=Sits.all8 hg
  simp only at q0 q1 q2 q3 q4 q5
  have hlt:=hg.lt
  have z0:(((room+1:Nat):Int) == 0)=false:=beq_eq_false_iff_ne.2 (by omega)
  have hq:∀ W,(binOp .eql 204 (.agg #[.int .u8 2,.int .u8 op,.int .u64 n,.int .u8 t,.int .u8 i,.int .u8 x,.pointer pl,.pointer pr]) (.agg #[.int .u8 2,.int .u8 0,.int .u64 0,.int .u8 t,.int .u8 i,.int .u8 0,.pointer none,.pointer none])).run Tryz.prog W = .ok (.bool (eqIt ⟨2,op,n,t,i,x⟩ ⟨2,0,0,t,i,0⟩ && pl.isNone && pr.isNone)) W :=
    fun W=>eq_expr ⟨2,op,n,t,i,x⟩ ⟨2,0,0,t,i,0⟩ pl pr none none _ _ (ptr_nil pl) (ptr_nil pr) W
  rw [hl,hr] at hq
  have e:(eqIt ⟨2,op,n,t,i,x⟩ ⟨2,0,0,t,i,0⟩ && l.isNil && r.isNil)=bare ⟨2,op,n,t,i,x⟩ l r:=by
    simp only [eqIt,bare,It.mk.injEq,true_and]
    by_cases a0:op=0 <;> by_cases a1:n=0 <;> by_cases a2:x=0 <;> simp [a0,a1,a2]
  rw [e] at hq
  clear e
  clear hl hr hg
  by_cases h1:t<4
  · have i1:(t:Int)<4:=by omega
    by_cases h2:i<8
    · have i2:(i:Int)<8:=by omega
      have e:fitsF (.node ⟨2,op,n,t,i,x⟩ l r) (room+1)=bare ⟨2,op,n,t,i,x⟩ l r:=by simp [fitsF,leafOk,h1,h2]
      rw [e];clear e
      generalize bare ⟨2,op,n,t,i,x⟩ l r=b at hq ⊢
      go_enter Tryz.func214,Tryz.ntmps214
      go_wp2_with fail
      go_region
      go_wp2_with fail
      go_quiet (fail)
      go_wp2_with fail
      go_ret
      exact ⟨rfl,drewN_below ((Below.refl _ _).alloc (Nat.le_refl _) _).drew _⟩
    · have i2:decide ((i:Int)<8)=false:=decide_eq_false (by omega)
      have e:fitsF (.node ⟨2,op,n,t,i,x⟩ l r) (room+1)=false:=by simp [fitsF,leafOk,h2]
      rw [e];clear e
      go_enter Tryz.func214,Tryz.ntmps214
      go_wp2_with fail
      go_region
      go_wp2_with fail
      go_quiet (fail)
      go_wp2_with fail
      go_ret
      exact ⟨rfl,drewN_below ((Below.refl _ _).alloc (Nat.le_refl _) _).drew _⟩
  · have i1:(4:Int)<=t:=by omega
    have e:fitsF (.node ⟨2,op,n,t,i,x⟩ l r) (room+1)=false:=by simp [fitsF,leafOk,h1]
    rw [e];clear e
    go_enter Tryz.func214,Tryz.ntmps214
    go_wp2_with fail
    go_region
    go_wp2_with fail
    go_quiet (fail)
    go_wp2_with fail
    go_ret
    exact ⟨rfl,drewN_below ((Below.refl _ _).alloc (Nat.le_refl _) _).drew _⟩
set_option maxRecDepth 100000 in
set_option maxHeartbeats 1000000 in
theorem fits_3 (op n t i x:Nat) (l r:Tr) (room:Nat) (hroom:room<1000) (w:World) (g:Nat) (pl pr:Option Addr) (hg:Sits w g 204 (exprCells ⟨3,op,n,t,i,x⟩ (.pointer pl) (.pointer pr)))
    (hl:pl.isNone=l.isNil) (hr:pr.isNone=r.isNil) :
    Calls Tryz.prog 214 #[.pointer (some ⟨g,0,none⟩),.int .i64 (room+1:Nat)] w fun e w'=>Made (.returned (.bool (fitsF (.node ⟨3,op,n,t,i,x⟩ l r) (room+1)))) w e w':=by
  obtain ⟨q0,q1,q2,q3,q4,q5,q6,q7⟩:=Sits.all8 hg
  simp only at q0 q1 q2 q3 q4 q5
  have hlt:=hg.lt
  have z0:(((room+1:Nat):Int) == 0)=false:=beq_eq_false_iff_ne.2 (by omega)
  have hq:∀ W,(binOp .eql 204 (.agg #[.int .u8 3,.int .u8 op,.int .u64 n,.int .u8 t,.int .u8 i,.int .u8 x,.pointer pl,.pointer pr]) (.agg #[.int .u8 3,.int .u8 0,.int .u64 0,.int .u8 0,.int .u8 0,.int .u8 x,.pointer none,.pointer none])).run Tryz.prog W = .ok (.bool (eqIt ⟨3,op,n,t,i,x⟩ ⟨3,0,0,0,0,x⟩ && pl.isNone && pr.isNone)) W :=
    fun W=>eq_expr ⟨3,op,n,t,i,x⟩ ⟨3,0,0,0,0,x⟩ pl pr none none _ _ (ptr_nil pl) (ptr_nil pr) W
  rw [hl,hr] at hq
  have e:(eqIt ⟨3,op,n,t,i,x⟩ ⟨3,0,0,0,0,x⟩ && l.isNil && r.isNil)=bare ⟨3,op,n,t,i,x⟩ l r:=by
    simp only [eqIt,bare,It.mk.injEq,true_and]
    by_cases a0:op=0 <;> by_cases a1:n=0 <;> by_cases a2:t=0 <;> by_cases a3:i=0 <;> simp [a0,a1,a2,a3]
  rw [e] at hq
  clear e
  clear hl hr hg
  by_cases h1:97<=x
  · have i1:(97:Int)<=x:=by omega
    by_cases h2:x<=122
    · have i2:(x:Int)<=122:=by omega
      by_cases h3:x=114
      · subst h3
        have e:fitsF (.node ⟨3,op,n,t,i,114⟩ l r) (room+1)=false:=by simp [fitsF,leafOk]
        rw [e];clear e
        go_enter Tryz.func214,Tryz.ntmps214
        go_wp2_with fail
        go_quiet (fail)
        go_wp2_with fail
        go_ret
        exact ⟨rfl,drewN_below ((Below.refl _ _).alloc (Nat.le_refl _) _) _⟩
      · have i3:((x:Int) != 114)=true:=by rw [bne_iff_ne];omega
        have e:fitsF (.node ⟨3,op,n,t,i,x⟩ l r) (room+1)=bare ⟨3,op,n,t,i,x⟩ l r:=by simp [fitsF,leafOk,h1,h2,h3]
        rw [e];clear e
        generalize bare ⟨3,op,n,t,i,x⟩ l r=b at hq ⊢
        go_enter Tryz.func214,Tryz.ntmps214
        go_wp2_with fail
        go_quiet (fail)
        go_wp2_with fail
        go_ret
        exact ⟨rfl,drewN_below ((Below.refl _ _).alloc (Nat.le_refl _) _) _⟩
    · have i2:(122:Int)<x:=by omega
      have e:fitsF (.node ⟨3,op,n,t,i,x⟩ l r) (room+1)=false:=by simp [fitsF,leafOk,h2]
      rw [e];clear e
      go_enter Tryz.func214,Tryz.ntmps214
      go_wp2_with fail
      go_quiet (fail)
      go_wp2_with fail
      go_ret
      exact ⟨rfl,drewN_below ((Below.refl _ _).alloc (Nat.le_refl _) _) _⟩
  · have i1:(x:Int)<97:=by omega
    have e:fitsF (.node ⟨3,op,n,t,i,x⟩ l r) (room+1)=false:=by simp [fitsF,leafOk,h1]
    rw [e];clear e
    go_enter Tryz.func214,Tryz.ntmps214
    go_wp2_with fail
    go_quiet (fail)
    go_wp2_with fail
    go_ret
    exact ⟨rfl,drewN_below ((Below.refl _ _).alloc (Nat.le_refl _) _) _⟩
set_option maxRecDepth 100000 in
set_option maxHeartbeats 1000000 in
theorem fits_6 (k op n t i x:Nat) (l r:Tr) (room:Nat) (hroom:room<1000) (hk:5<k) (w:World) (g:Nat) (pl pr:Option Addr) (hg:Sits w g 204 (exprCells ⟨k,op,n,t,i,x⟩ (.pointer pl) (.pointer pr)))
     :
    Calls Tryz.prog 214 #[.pointer (some ⟨g,0,none⟩),.int .i64 (room+1:Nat)] w fun e w'=>Made (.returned (.bool (fitsF (.node ⟨k,op,n,t,i,x⟩ l r) (room+1)))) w e w':=by
  obtain ⟨q0,q1,q2,q3,q4,q5,q6,q7⟩:=Sits.all8 hg
  simp only at q0 q1 q2 q3 q4 q5
  have hlt:=hg.lt
  have z0:(((room+1:Nat):Int) == 0)=false:=beq_eq_false_iff_ne.2 (by omega)
  clear hg
  have e0:((k:Int) == 0)=false:=beq_eq_false_iff_ne.2 (by omega)
  have e1:((k:Int) == 1)=false:=beq_eq_false_iff_ne.2 (by omega)
  have e2:((k:Int) == 2)=false:=beq_eq_false_iff_ne.2 (by omega)
  have e3:((k:Int) == 3)=false:=beq_eq_false_iff_ne.2 (by omega)
  have e4:((k:Int) == 4)=false:=beq_eq_false_iff_ne.2 (by omega)
  have e5:((k:Int) == 5)=false:=beq_eq_false_iff_ne.2 (by omega)
  have e:fitsF (.node ⟨k,op,n,t,i,x⟩ l r) (room+1)=false:=by simp [fitsF,leafOk,show ¬ k=0 by omega,show ¬ k=1 by omega,show ¬ k=2 by omega,show ¬ k=3 by omega,show ¬ k=4 by omega,show ¬ k=5 by omega]
  rw [e];clear e hk
  go_enter Tryz.func214,Tryz.ntmps214
  go_wp2_with fail
  go_quiet (fail)
  go_wp2_with fail
  go_ret
  exact ⟨rfl,drewN_below ((Below.refl _ _).alloc (Nat.le_refl _) _) _⟩
set_option maxRecDepth 100000 in
set_option maxHeartbeats 1000000 in
theorem fits_4 (op n t i x:Nat) (l r:Tr) (room:Nat) (hroom:room<1000) (w:World) (g:Nat) (pl pr:Option Addr) (hg:Sits w g 204 (exprCells ⟨4,op,n,t,i,x⟩ (.pointer pl) (.pointer pr)))
    (hr:pr.isNone=r.isNil)
    (HL:Hid (∀ W:World,Below w.heap.size w W->Calls Tryz.prog 214 #[.pointer pl,.int .i64 (room:Nat)] W fun e w'=>Made (.returned (.bool (fitsF l room))) W e w')) :
    Calls Tryz.prog 214 #[.pointer (some ⟨g,0,none⟩),.int .i64 (room+1:Nat)] w fun e w'=>Made (.returned (.bool (fitsF (.node ⟨4,op,n,t,i,x⟩ l r) (room+1)))) w e w':=by
  obtain ⟨q0,q1,q2,q3,q4,q5,q6,q7⟩:=Sits.all8 hg
  simp only at q0 q1 q2 q3 q4 q5
  have hlt:=hg.lt
  have z0:(((room+1:Nat):Int) == 0)=false:=beq_eq_false_iff_ne.2 (by omega)
  have hq:∀ W,(binOp .eql 204 (.agg #[.int .u8 4,.int .u8 op,.int .u64 n,.int .u8 t,.int .u8 i,.int .u8 x,.pointer pl,.pointer pr]) (.agg #[.int .u8 4,.int .u8 op,.int .u64 0,.int .u8 0,.int .u8 0,.int .u8 0,.pointer pl,.pointer none])).run Tryz.prog W = .ok (.bool (eqIt ⟨4,op,n,t,i,x⟩ ⟨4,op,0,0,0,0⟩ && true && pr.isNone)) W :=
    fun W=>eq_expr ⟨4,op,n,t,i,x⟩ ⟨4,op,0,0,0,0⟩ pl pr pl none _ _ (ptr_same pl) (ptr_nil pr) W
  rw [hr] at hq
  have e:(eqIt ⟨4,op,n,t,i,x⟩ ⟨4,op,0,0,0,0⟩ && true && r.isNil)=bare ⟨4,op,n,t,i,x⟩ l r:=by
    simp only [eqIt,bare,It.mk.injEq,true_and]
    by_cases a0:n=0 <;> by_cases a1:t=0 <;> by_cases a2:i=0 <;> by_cases a3:x=0 <;> simp [a0,a1,a2,a3]
  rw [e] at hq
  clear e
  by_cases h1:sides op=1
  · have e:fitsF (.node ⟨4,op,n,t,i,x⟩ l r) (room+1)=(fitsF l room && bare ⟨4,op,n,t,i,x⟩ l r):=by simp [fitsF,h1]
    rw [e];clear e hr
    have HS:=Lib.hid h1;clear h1
    generalize bare ⟨4,op,n,t,i,x⟩ l r=b at hq ⊢
    cases hf:fitsF l room
    all_goals
      rw [hf] at HL
      clear hf
      go_enter Tryz.func214,Tryz.ntmps214
      go_wp2_with fail
      go_region
      go_wp2_with (go_at_call 224;refine (sides_nat _ _).mono ?_;rw [HS.out];rintro e w' ⟨rfl,rfl⟩)
      refine (HL.out _ ((Below.refl _ _).alloc (Nat.le_refl _) _).drew).mono ?_
      rintro e w1 ⟨rfl,hb⟩
      have S1:=Sits.below (w':=w1) (hg.alloc (.cells (exprCells ⟨4,op,0,0,0,0⟩ (.pointer pl) (.pointer none)) 204)).drew hb (by have:=hg.lt;simp at this ⊢;omega)
      have S2:Sits w1 w.heap.size 204 (exprCells ⟨4,op,0,0,0,0⟩ (.pointer pl) (.pointer none)):=Sits.below (w':=w1) (Sits.new w 204 (exprCells ⟨4,op,0,0,0,0⟩ (.pointer pl) (.pointer none))).drew hb (by simp)
      obtain ⟨p0,p1,p2,p3,p4,p5,p6,p7⟩:=Sits.all8 S1
      simp only at p0 p1 p2 p3 p4 p5
      have o0:w1.cell? ⟨w.heap.size,0,none⟩=some (.int .u8 4):=S2.cell 0
      have o1:w1.cell? ⟨w.heap.size,1,none⟩=some (.int .u8 op):=S2.cell 1
      have o2:w1.cell? ⟨w.heap.size,2,none⟩=some (.int .u64 0):=S2.cell 2
      have o3:w1.cell? ⟨w.heap.size,3,none⟩=some (.int .u8 0):=S2.cell 3
      have o4:w1.cell? ⟨w.heap.size,4,none⟩=some (.int .u8 0):=S2.cell 4
      have o5:w1.cell? ⟨w.heap.size,5,none⟩=some (.int .u8 0):=S2.cell 5
      have o6:w1.cell? ⟨w.heap.size,6,none⟩=some (.pointer pl):=S2.cell 6
      have o7:w1.cell? ⟨w.heap.size,7,none⟩=some (.pointer none):=S2.cell 7
      have HB:=Lib.hid (Below.boxedDrawn hb)
      clear S1 S2 hb
      go_wp2_with fail
      go_quiet (fail)
      go_wp2_with fail
      go_ret
      exact ⟨rfl,drewN_below HB.out _⟩
  · have e:fitsF (.node ⟨4,op,n,t,i,x⟩ l r) (room+1)=false:=by simp [fitsF,h1]
    rw [e];clear e hr
    have i1:(((sides op:Nat):Int) == 1)=false:=beq_eq_false_iff_ne.2 (by omega)
    clear h1 HL
    go_enter Tryz.func214,Tryz.ntmps214
    go_wp2_with fail
    go_region
    go_wp2_with (go_at_call 224;refine (sides_nat _ _).mono ?_;rintro e w' ⟨rfl,rfl⟩)
    go_quiet (fail)
    go_wp2_with fail
    go_ret
    exact ⟨rfl,drewN_below ((Below.refl _ _).alloc (Nat.le_refl _) _).drew _⟩
set_option maxRecDepth 100000 in
set_option maxHeartbeats 2000000 in
theorem fits_5 (op n t i x:Nat) (l r:Tr) (room:Nat) (hroom:room<1000) (w:World) (g:Nat) (pl pr:Option Addr) (hg:Sits w g 204 (exprCells ⟨5,op,n,t,i,x⟩ (.pointer pl) (.pointer pr)))
    (HL:Hid (∀ W:World,Below w.heap.size w W->Calls Tryz.prog 214 #[.pointer pl,.int .i64 (room:Nat)] W fun e w'=>Made (.returned (.bool (fitsF l room))) W e w'))
    (HR:Hid (∀ W:World,Below w.heap.size w W->Calls Tryz.prog 214 #[.pointer pr,.int .i64 (room:Nat)] W fun e w'=>Made (.returned (.bool (fitsF r room))) W e w')) :
    Calls Tryz.prog 214 #[.pointer (some ⟨g,0,none⟩),.int .i64 (room+1:Nat)] w fun e w'=>Made (.returned (.bool (fitsF (.node ⟨5,op,n,t,i,x⟩ l r) (room+1)))) w e w':=by
  obtain ⟨q0,q1,q2,q3,q4,q5,q6,q7⟩:=Sits.all8 hg
  simp only at q0 q1 q2 q3 q4 q5
  have hlt:=hg.lt
  have z0:(((room+1:Nat):Int) == 0)=false:=beq_eq_false_iff_ne.2 (by omega)
  have hq:∀ W,(binOp .eql 204 (.agg #[.int .u8 5,.int .u8 op,.int .u64 n,.int .u8 t,.int .u8 i,.int .u8 x,.pointer pl,.pointer pr]) (.agg #[.int .u8 5,.int .u8 op,.int .u64 0,.int .u8 0,.int .u8 0,.int .u8 0,.pointer pl,.pointer pr])).run Tryz.prog W = .ok (.bool (eqIt ⟨5,op,n,t,i,x⟩ ⟨5,op,0,0,0,0⟩ && true && true)) W :=
    fun W=>eq_expr ⟨5,op,n,t,i,x⟩ ⟨5,op,0,0,0,0⟩ pl pr pl pr _ _ (ptr_same pl) (ptr_same pr) W
  have e:(eqIt ⟨5,op,n,t,i,x⟩ ⟨5,op,0,0,0,0⟩ && true && true)=bare ⟨5,op,n,t,i,x⟩ l r:=by
    simp only [eqIt,bare,It.mk.injEq,true_and]
    by_cases a0:n=0 <;> by_cases a1:t=0 <;> by_cases a2:i=0 <;> by_cases a3:x=0 <;> simp [a0,a1,a2,a3]
  rw [e] at hq
  clear e
  by_cases h1:sides op=2
  · have e:fitsF (.node ⟨5,op,n,t,i,x⟩ l r) (room+1)=(fitsF l room && fitsF r room && bare ⟨5,op,n,t,i,x⟩ l r):=by simp [fitsF,h1]
    rw [e];clear e
    have HS:=Lib.hid h1;clear h1
    generalize bare ⟨5,op,n,t,i,x⟩ l r=b at hq ⊢
    have S0:Sits ((w.alloc (.cells (exprCells ⟨5,op,0,0,0,0⟩ (.pointer pl) (.pointer pr)) 204)).drew) g 204 _:=(hg.alloc (.cells (exprCells ⟨5,op,0,0,0,0⟩ (.pointer pl) (.pointer pr)) 204)).drew
    have T0:Sits ((w.alloc (.cells (exprCells ⟨5,op,0,0,0,0⟩ (.pointer pl) (.pointer pr)) 204)).drew) w.heap.size 204 (exprCells ⟨5,op,0,0,0,0⟩ (.pointer pl) (.pointer pr)):=(Sits.new w 204 (exprCells ⟨5,op,0,0,0,0⟩ (.pointer pl) (.pointer pr))).drew
    cases hf:fitsF l room with
    | false =>
      rw [hf] at HL
      clear hf HR
      go_enter Tryz.func214,Tryz.ntmps214
      go_wp2_with fail
      go_region
      go_wp2_with (go_at_call 224;refine (sides_nat _ _).mono ?_;rw [HS.out];rintro e w' ⟨rfl,rfl⟩)
      refine (HL.out _ ((Below.refl _ _).alloc (Nat.le_refl _) _).drew).mono ?_
      rintro e w1 ⟨rfl,hb⟩
      have HB:=Lib.hid (Below.boxedDrawn hb)
      clear S0 T0 hb
      go_wp2_with fail
      go_quiet (fail)
      go_wp2_with fail
      go_ret
      exact ⟨rfl,drewN_below HB.out _⟩
    | true =>
      rw [hf] at HL
      clear hf
      cases hf:fitsF r room
      all_goals
        rw [hf] at HR
        clear hf
        go_enter Tryz.func214,Tryz.ntmps214
        go_wp2_with fail
        go_region
        go_wp2_with (go_at_call 224;refine (sides_nat _ _).mono ?_;rw [HS.out];rintro e w' ⟨rfl,rfl⟩)
        refine (HL.out _ ((Below.refl _ _).alloc (Nat.le_refl _) _).drew).mono ?_
        rintro e w1 ⟨rfl,hb⟩
        have S1:=S0.below hb S0.lt
        have T1:=T0.below hb T0.lt
        have p7:w1.cell? ⟨g,7,none⟩=some (.pointer pr):=S1.cell 7
        have HB:=Lib.hid (Below.boxedDrawn hb)
        clear S0 T0 hb
        go_wp2_with fail
        refine (HR.out _ HB.out).mono ?_
        rintro e w2 ⟨rfl,hb⟩
        have S2:=S1.below hb S1.lt
        have T2:=T1.below hb T1.lt
        obtain ⟨p0,p1,p2,p3,p4,p5,p6,p7⟩:=Sits.all8 S2
        simp only at p0 p1 p2 p3 p4 p5
        have o0:w2.cell? ⟨w.heap.size,0,none⟩=some (.int .u8 5):=T2.cell 0
        have o1:w2.cell? ⟨w.heap.size,1,none⟩=some (.int .u8 op):=T2.cell 1
        have o2:w2.cell? ⟨w.heap.size,2,none⟩=some (.int .u64 0):=T2.cell 2
        have o3:w2.cell? ⟨w.heap.size,3,none⟩=some (.int .u8 0):=T2.cell 3
        have o4:w2.cell? ⟨w.heap.size,4,none⟩=some (.int .u8 0):=T2.cell 4
        have o5:w2.cell? ⟨w.heap.size,5,none⟩=some (.int .u8 0):=T2.cell 5
        have o6:w2.cell? ⟨w.heap.size,6,none⟩=some (.pointer pl):=T2.cell 6
        have o7:w2.cell? ⟨w.heap.size,7,none⟩=some (.pointer pr):=T2.cell 7
        have HB2:=Lib.hid (HB.out.trans (hb.mono HB.out.size))
        clear S1 T1 S2 T2 hb
        go_wp2_with fail
        go_quiet (fail)
        go_wp2_with fail
        go_ret
        exact ⟨rfl,drewN_below HB2.out _⟩
  · have e:fitsF (.node ⟨5,op,n,t,i,x⟩ l r) (room+1)=false:=by simp [fitsF,h1]
    rw [e];clear e
    have i1:(((sides op:Nat):Int) == 2)=false:=beq_eq_false_iff_ne.2 (by omega)
    clear h1 HL HR
    go_enter Tryz.func214,Tryz.ntmps214
    go_wp2_with fail
    go_region
    go_wp2_with (go_at_call 224;refine (sides_nat _ _).mono ?_;rintro e w' ⟨rfl,rfl⟩)
    go_quiet (fail)
    go_wp2_with fail
    go_ret
    exact ⟨rfl,drewN_below ((Below.refl _ _).alloc (Nat.le_refl _) _).drew _⟩
set_option maxRecDepth 100000 in
theorem fits_any (t:Tr):∀ (room:Nat) (v:Value) (w:World),room<1000->Tree w t v->Calls Tryz.prog 214 #[v,.int .i64 (room:Nat)] w fun e w'=>Made (.returned (.bool (fitsF t room))) w e w':=by
  induction t with
  | nil =>
    intro room v w _ h
    obtain rfl:=h
    show Calls _ _ _ _ fun e w'=>Made (.returned (.bool false)) w e w'
    go_enter Tryz.func214,Tryz.ntmps214
    go_wp2_with fail
    go_ret
    exact ⟨rfl,Below.refl _ _⟩
  | node a l r ihl ihr =>
    intro room v w hroom h
    obtain ⟨g,lv,rv,rfl,hg,hl,hr⟩:=h
    obtain ⟨pl,rfl,hpl⟩:=hl.ptr
    obtain ⟨pr,rfl,hpr⟩:=hr.ptr
    cases room with
    | zero =>
      show Calls _ _ #[.pointer (some ⟨g,0,none⟩),.int .i64 0] _ fun e w'=>Made (.returned (.bool false)) w e w'
      clear hg hl hr hpl hpr ihl ihr
      go_enter Tryz.func214,Tryz.ntmps214
      go_wp2_with fail
      go_ret
      exact ⟨rfl,Below.refl _ _⟩
    | succ room =>
      obtain ⟨k,op,n,t,i,x⟩:=a
      by_cases h0:k=0
      · subst h0;exact fits_0 op n t i x l r room (by omega) w g pl pr hg hpl hpr
      by_cases h1:k=1
      · subst h1;exact fits_1 op n t i x l r room (by omega) w g pl pr hg hpl hpr
      by_cases h2:k=2
      · subst h2;exact fits_2 op n t i x l r room (by omega) w g pl pr hg hpl hpr
      by_cases h3:k=3
      · subst h3;exact fits_3 op n t i x l r room (by omega) w g pl pr hg hpl hpr
      by_cases h4:k=4
      · subst h4;exact fits_4 op n t i x l r room (by omega) w g pl pr hg hpr (Lib.hid fun W hb=>ihl room _ W (by omega) (hl.below hb))
      by_cases h5:k=5
      · subst h5;exact fits_5 op n t i x l r room (by omega) w g pl pr hg (Lib.hid fun W hb=>ihl room _ W (by omega) (hl.below hb)) (Lib.hid fun W hb=>ihr room _ W (by omega) (hr.below hb))
      · exact fits_6 k op n t i x l r room (by omega) (by omega) w g pl pr hg
theorem may_any (t:Tr) (v:Value) (w:World) (h:Tree w t v):Calls Tryz.prog 145 #[v] w fun e w'=>Made (.returned (.bool (fitsF t 12))) w e w':=by
  have H:=Lib.hid (fits_any t 12 v w (by omega) h)
  obtain ⟨p,rfl,_⟩:=h.ptr
  clear h
  go_enter Tryz.func145,Tryz.ntmps145
  go_wp2_with fail
  refine H.out.mono ?_
  rintro e w1 ⟨rfl,hb⟩
  go_wp2_with fail
  go_ret
  exact ⟨rfl,hb⟩
end Go.Proofs.YtagebkachdmnbaaGreatDoor.Expr
end
section
namespace Go.Proofs.YtagebkachdmnbaaGreatDoor.Expr
open Go.RowKit Go.Proofs.YtagebkachdmnbaaGreatDoor.Mem Go.Lib
def Reads (e0:Ending) (w:World) (e:Ending) (w':World):Prop:=e=e0/\∃ n,w' = w.drewN n
theorem Reads.below {e0 e:Ending} {w w':World} (h:Reads e0 w e w'):Made e0 w e w':=by
  obtain ⟨he,n,rfl⟩:=h;exact ⟨he,drewN_below (Below.refl _ _) n⟩
theorem Tree.drewN {w:World} {t:Tr} {v:Value} (h:Tree w t v) (n:Nat):Tree (w.drewN n) t v:=h.below (drewN_below (Below.refl _ _) n)
theorem quiet_reads {P:Program} {f:FuncId} {args:Array Value} {w:World} {n:Nat} {v:Value}
    (h:Calls P f args (w.drewN n) fun e w'=>Reads (.returned v) (w.drewN n) e w'):Calls P f args (w.drewN n) fun e w''=>e = .returned v/\∃ m,w'' = w.drewN m :=
  Calls.quiet_of (h.mono fun _ _ h=>h)
set_option maxRecDepth 100000 in
theorem depth_any (t:Tr):∀ (m:Nat) (v:Value) (w:World),m<1000->Tree w t v->Calls Tryz.prog 261 #[v,.int .i64 (m:Nat)] w fun e w'=>Reads (.returned (.int .i64 (deepF t m:Nat))) w e w':=by
  induction t with
  | nil =>
    intro m v w _ h
    obtain rfl:=h
    show Calls _ _ _ _ fun e w'=>Reads (.returned (.int .i64 0)) w e w'
    go_enter Tryz.func261,Tryz.ntmps261
    go_wp2_with fail
    go_ret
    exact ⟨rfl,0,(World.drewN_zero _).symm⟩
  | node a l r ihl ihr =>
    intro m v w hm h
    obtain ⟨g,lv,rv,rfl,hg,hl,hr⟩:=h
    obtain ⟨pl,rfl,hpl⟩:=hl.ptr
    obtain ⟨pr,rfl,hpr⟩:=hr.ptr
    clear hpl hpr
    cases m with
    | zero =>
      show Calls _ _ #[.pointer (some ⟨g,0,none⟩),.int .i64 0] _ fun e w'=>Reads (.returned (.int .i64 0)) w e w'
      clear hg hl hr ihl ihr
      go_enter Tryz.func261,Tryz.ntmps261
      go_wp2_with fail
      go_ret
      exact ⟨rfl,0,(World.drewN_zero _).symm⟩
    | succ m =>
      have q6:w.cell? ⟨g,6,none⟩=some (.pointer pl):=hg.cell 6
      have q7:w.cell? ⟨g,7,none⟩=some (.pointer pr):=hg.cell 7
      have hlt:=hg.lt
      have HL:=Lib.hid (fun n=>ihl m (.pointer pl) (w.drewN n) (by omega) (hl.drewN n))
      have HR:=Lib.hid (fun n=>ihr m (.pointer pr) (w.drewN n) (by omega) (hr.drewN n))
      have z0:(((m+1:Nat):Int) == 0)=false:=beq_eq_false_iff_ne.2 (by omega)
      have d1:=deepF_le l m
      have d2:=deepF_le r m
      have E:=Lib.hid (show deepF (.node a l r) (m+1)=1+max (deepF l m) (deepF r m) from rfl)
      clear hg hl hr ihl ihr
      generalize deepF (.node a l r) (m+1)=D at E ⊢
      generalize deepF l m=x at HL E d1 ⊢
      generalize deepF r m=y at HR E d2 ⊢
      have hw:IntKind.i64.wrap (((m+1:Nat):Int) - 1)=(m:Int):=by rw [IntWalk.i64_in _ (by omega)];omega
      have hw2:IntKind.i64.wrap ((m:Int)+1 - 1)=(m:Int):=by rw [IntWalk.i64_in _ (by omega)];omega
      go_enter Tryz.func261,Tryz.ntmps261
      go_wp2_with fail
      go_quiet ((first | (go_at_call_of 261 (Value.pointer pl);exact quiet_reads (HL.out _)) | (go_at_call_of 261 (Value.pointer pr);exact quiet_reads (HR.out _))))
      go_wp2_with fail
      go_ret
      exact ⟨ret_int (by rw [E.out];omega),nq,rfl⟩
theorem Depth_any (t:Tr) (v:Value) (w:World) (h:Tree w t v):Calls Tryz.prog 231 #[v] w fun e w'=>Made (.returned (.int .i64 (deepF t 13:Nat))) w e w':=by
  have H:=Lib.hid (depth_any t 13 v w (by omega) h)
  obtain ⟨p,rfl,_⟩:=h.ptr
  clear h
  go_enter Tryz.func231,Tryz.ntmps231
  go_wp2_with fail
  refine H.out.mono ?_
  rintro e w1 hr
  obtain ⟨rfl,hb⟩:=Reads.below hr
  have HB:=Lib.hid hb;clear hb hr
  go_wp2_with fail
  go_ret
  exact ⟨rfl,HB.out⟩
end Go.Proofs.YtagebkachdmnbaaGreatDoor.Expr
end
