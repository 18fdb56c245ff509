/- Part 5 of the proof: what is used of the texts ExprS, ExprA. -/
import Derived.KernelRfl
import Derived.Lib.ItoaNum
import Derived.Test.YtaanhmndeobgbaaGreatDoorGA2
import Derived.Test.YtaanhmndeobgbaaGreatDoorGA3
import Derived.Test.YtaanhmndeobgbaaGreatDoorGA0
import Derived.Lib.ItoaMem
import Derived.Lib.ItoaLen
import Derived.Lib.AppendIntMem
set_option maxRecDepth 100000
set_option maxHeartbeats 3200000
namespace Go.Proofs.YtaanhmndeobgbaaGreatDoor.Expr
structure It where
 kind:Nat
 op:Nat
 n:Nat
 t:Nat
 i:Nat
 x:Nat
deriving DecidableEq
inductive Tr
 | nil
 | node (a:It) (l r:Tr)
deriving DecidableEq
inductive Ex
 | num (n:Nat)
 | reg (i:Nat)
 | of (t i:Nat)
 | loc (x:Nat)
 | one (op:Nat) (a:Ex)
 | two (op:Nat) (a b:Ex)
deriving DecidableEq
def Tr.isNil:Tr->Bool
 | .nil=>true
 | .node _ _ _=>false
def sides (op:Nat):Nat:=if 1<=op/\op<=12 then 2 else if op=13 \/ op=14 then 1 else 0
def bn (a:It):Bool :=
 if a.kind=0 then true
 else if a.kind=1 then decide (a.i<8)
 else if a.kind=2 then decide (a.t<4) && decide (a.i<8)
 else if a.kind=3 then decide (97<=a.x) && decide (a.x<=122) && decide (a.x≠114)
 else false
def bare (a:It) (l r:Tr):Bool :=
 (decide (a.op=0) || (a.kind == 4 || a.kind == 5)) && (decide (a.n=0) || a.kind == 0) && (decide (a.t=0) || a.kind == 2) && (decide (a.i=0) || (a.kind == 1 || a.kind == 2)) &&
  (decide (a.x=0) || a.kind == 3) && (l.isNil || (a.kind == 4 || a.kind == 5)) && (r.isNil || a.kind == 5)
def bC:Tr->Nat->Bool
 | .nil,_=>false
 | .node _ _ _,0=>false
 | .node a l r,room+1=>(if a.kind=4 then decide (sides a.op=1) && bC l room else if a.kind=5 then decide (sides a.op=2) && bC l room && bC r room else bn a) && bare a l r
def iY:Tr->Nat->Nat
 | .nil,_=>0
 | .node _ _ _,0=>0
 | .node _ l r,m+1=>1+max (iY l m) (iY r m)
def bA:Ex->Tr
 | .num n => .node ⟨0,0,n,0,0,0⟩ .nil .nil
 | .reg i => .node ⟨1,0,0,0,i,0⟩ .nil .nil
 | .of t i => .node ⟨2,0,0,t,i,0⟩ .nil .nil
 | .loc x => .node ⟨3,0,0,0,0,x⟩ .nil .nil
 | .one op a => .node ⟨4,op,0,0,0,0⟩ (bA a) .nil
 | .two op a b => .node ⟨5,op,0,0,0,0⟩ (bA a) (bA b)
def Ex.depth:Ex->Nat
 | .one _ a=>a.depth+1
 | .two _ a b=>max a.depth b.depth+1
 | _=>1
def Ex.ok:Ex->Prop
 | .num n=>n<18446744073709551616
 | .reg i=>i<8
 | .of t i=>t<4/\i<8
 | .loc x=>97<=x/\x<=122/\x≠114
 | .one op a=>(op=13 \/ op=14)/\a.ok
 | .two op a b=>1<=op/\op<=12/\a.ok/\b.ok
def It.bd (a:It):Prop:=a.kind<256/\a.op<256/\a.n<18446744073709551616/\a.t<256/\a.i<256/\a.x<256
theorem oJ {op:Nat}:sides op=1 ↔ op=13 \/ op=14:=by
 unfold sides;by_cases h:1<=op/\op<=12
 ·rw [if_pos h];omega
 ·rw [if_neg h]
  by_cases h2:op=13 \/ op=14
  ·rw [if_pos h2];simp [h2]
  ·rw [if_neg h2];simp [h2]
theorem jB {op:Nat}:sides op=2 ↔ 1<=op/\op<=12:=by
 unfold sides;by_cases h:1<=op/\op<=12
 ·rw [if_pos h];simp [h]
 ·rw [if_neg h]
  by_cases h2:op=13 \/ op=14
  ·rw [if_pos h2];simp [h]
  ·rw [if_neg h2];simp [h]
theorem I4 (e:Ex) (h:e.ok):∀ room,e.depth<=room->bC (bA e) room=true:=by
 induction e with
 | one op a ih =>
  intro room hr;obtain ⟨m,rfl⟩:∃ m,room=m+1:=⟨room - 1,by simp only [Ex.depth] at hr;omega⟩
  have h1:sides op=1:=oJ.2 h.1;simp only [Ex.depth] at hr
  simp [bA,bC,bare,h1,ih h.2 m (by omega),Tr.isNil]
 | two op a b iha ihb =>
  intro room hr;obtain ⟨m,rfl⟩:∃ m,room=m+1:=⟨room - 1,by simp only [Ex.depth] at hr;omega⟩
  have h1:sides op=2:=jB.2 ⟨h.1,h.2.1⟩;simp only [Ex.depth] at hr
  simp [bA,bC,bare,h1,iha h.2.2.1 m (by omega),ihb h.2.2.2 m (by omega)]
 | num n =>
  intro room hr;obtain ⟨m,rfl⟩:∃ m,room=m+1:=⟨room - 1,by simp only [Ex.depth] at hr;omega⟩
  simp [bA,bC,bare,bn,Tr.isNil]
 | reg i =>
  intro room hr;obtain ⟨m,rfl⟩:∃ m,room=m+1:=⟨room - 1,by simp only [Ex.depth] at hr;omega⟩
  have h1:i<8:=h;simp only [bA,bC,bare,bn,Tr.isNil]
  simpa using h1
 | of t i =>
  intro room hr;obtain ⟨m,rfl⟩:∃ m,room=m+1:=⟨room - 1,by simp only [Ex.depth] at hr;omega⟩
  have h1:t<4/\i<8:=h;simp only [bA,bC,bare,bn,Tr.isNil]
  simpa using h1
 | loc x =>
  intro room hr;obtain ⟨m,rfl⟩:∃ m,room=m+1:=⟨room - 1,by simp only [Ex.depth] at hr;omega⟩
  have h1:97<=x/\x<=122/\x≠114:=h;simp [bA,bC,bare,bn,Tr.isNil,h1]
theorem Gv:∀ (a b:Ex),bA a=bA b->a=b:=by
 intro a;induction a with
 | num n=>intro b h;cases b <;> simp_all [bA]
 | reg n=>intro b h;cases b <;> simp_all [bA]
 | of n m=>intro b h;cases b <;> simp_all [bA]
 | loc n=>intro b h;cases b <;> simp_all [bA]
 | one op a ih =>
  intro b h;cases b with
  | one op' a'=>simp only [bA,Tr.node.injEq,It.mk.injEq,true_and,and_true] at h;rw [h.1,ih a' h.2]
  | _=>simp [bA] at h
 | two op a b iha ihb =>
  intro c h;cases c with
  | two op' a' b'=>simp only [bA,Tr.node.injEq,It.mk.injEq,true_and,and_true] at h;rw [h.1,iha a' h.2.1,ihb b' h.2.2]
  | _=>simp [bA] at h
theorem EB:∀ (t:Tr) (m:Nat),iY t m<=m:=by
 intro t;induction t with
 | nil=>intro m;simp [iY]
 | node a l r ihl ihr =>
  intro m;cases m with
  | zero=>simp [iY]
  | succ m=>have:=ihl m;have:=ihr m;simp only [iY];omega
inductive Sp (l:List It):Nat->Ex->Nat->Prop
 | num {k a}:l[k]? = some a->a.kind=0->Sp l k (.num a.n) (k+1)
 | reg {k a}:l[k]? = some a->a.kind=1->a.i<8->Sp l k (.reg a.i) (k+1)
 | of {k a}:l[k]? = some a->a.kind=2->a.t<4->a.i<8->Sp l k (.of a.t a.i) (k+1)
 | loc {k a}:l[k]? = some a->a.kind=3->97<=a.x->a.x<=122->a.x≠114->Sp l k (.loc a.x) (k+1)
 | one {k a e m}:l[k]? = some a->a.kind=4->(a.op=13 \/ a.op=14)->Sp l (k+1) e m->Sp l k (.one a.op e) m
 | two {k a e f m j}:l[k]? = some a->a.kind=5->1<=a.op->a.op<=12->Sp l (k+1) e m->Sp l m f j->Sp l k (.two a.op e f) j
def bf (a:It):Option Nat :=
 if a.kind=4/\sides a.op=1 then some 1 else if a.kind=5/\sides a.op=2 then some 2 else if bn a then some 0 else none
theorem EC {a:It} (h4:a.kind≠4) (h5:a.kind≠5):bf a=if bn a then some 0 else none:=by
 unfold bf;rw [if_neg (fun h=>h4 h.1),if_neg (fun h=>h5 h.1)]
theorem xC {a:It} (h:bn a=true):a.kind<4:=by
 unfold bn at h
 repeat' split at h
 all_goals first | omega | cases h
def qO (a:It):Ex:=if a.kind=0 then .num a.n else if a.kind=1 then .reg a.i else if a.kind=2 then .of a.t a.i else .loc a.x
theorem ED (a:It):(qO a).depth=1:=by
 unfold qO;split;rfl;split;rfl;split <;> rfl
theorem Sp.leaf {l:List It} {k:Nat} {a:It} (h:l[k]? = some a) (hl:bn a=true):Sp l k (qO a) (k+1):=by
 unfold bn at hl;unfold qO;by_cases h0:a.kind=0
 ·rw [if_pos h0];exact .num h h0
 rw [if_neg h0] at hl ⊢;by_cases h1:a.kind=1
 ·rw [if_pos h1] at hl ⊢;exact .reg h h1 (by simpa using hl)
 rw [if_neg h1] at hl ⊢;by_cases h2:a.kind=2
 ·rw [if_pos h2] at hl ⊢
  have:=(Bool.and_eq_true _ _).mp hl;exact .of h h2 (by simpa using this.1) (by simpa using this.2)
 rw [if_neg h2] at hl ⊢;by_cases h3:a.kind=3
 ·rw [if_pos h3] at hl
  simp only [Bool.and_eq_true,decide_eq_true_eq] at hl
  exact .loc h h3 hl.1.1 hl.1.2 hl.2
 ·rw [if_neg h3] at hl;cases hl
theorem Sp.le {l:List It} {k m:Nat} {e:Ex} (h:Sp l k e m):k<m/\m<=l.length:=by
 have lt:∀ {k:Nat} {a:It},l[k]? = some a->k<l.length:=fun h=>by
  rcases List.getElem?_eq_some_iff.1 h with ⟨h,_⟩;exact h
 induction h with
 | num h _=>have:=lt h;omega
 | reg h _ _=>have:=lt h;omega
 | of h _ _ _=>have:=lt h;omega
 | loc h _ _ _ _=>have:=lt h;omega
 | one h _ _ _ ih=>omega
 | two h _ _ _ _ _ ih1 ih2=>omega
theorem Sp.CG {l:List It} {k m:Nat} {e:Ex} (h:Sp l k e m):∀ {e' m'},Sp l k e' m' -> e=e' /\ m=m':=by
 have inj:∀ {k:Nat} {a b:It},l[k]? = some a->l[k]? = some b->a=b:=fun h h'=>by rw [h] at h';exact Option.some.inj h'
 induction h with
 | num h hk=>intro e' m' h';cases h' <;> (have e:=inj h ‹_›;subst e) <;> first | exact ⟨rfl,rfl⟩ | omega
 | reg h hk _=>intro e' m' h';cases h' <;> (have e:=inj h ‹_›;subst e) <;> first | exact ⟨rfl,rfl⟩ | omega
 | of h hk _ _=>intro e' m' h';cases h' <;> (have e:=inj h ‹_›;subst e) <;> first | exact ⟨rfl,rfl⟩ | omega
 | loc h hk _ _ _=>intro e' m' h';cases h' <;> (have e:=inj h ‹_›;subst e) <;> first | exact ⟨rfl,rfl⟩ | omega
 | one h hk ho hs ih =>
  intro e' m' h';cases h' with
  | one h2 _ _ hs2 =>
   have e:=inj h h2;subst e;obtain ⟨rfl,rfl⟩:=ih hs2;exact ⟨rfl,rfl⟩
  | _=>have e:=inj h ‹_›;subst e;omega
 | two h hk ho1 ho2 hs1 hs2 ih1 ih2 =>
  intro e' m' h';cases h' with
  | two h2 _ _ _ YO YP =>
   have e:=inj h h2;subst e;obtain ⟨rfl,rfl⟩:=ih1 YO;obtain ⟨rfl,rfl⟩:=ih2 YP;exact ⟨rfl,rfl⟩
  | _=>have e:=inj h ‹_›;subst e;omega
def uO (a:It):Tr:=.node ⟨a.kind,0,if a.kind=0 then a.n else 0,if a.kind=2 then a.t else 0,if a.kind=1 \/ a.kind=2 then a.i else 0,if a.kind=3 then a.x else 0⟩ .nil .nil
def nA (l:List It):Nat->Nat->Tr × Nat
 | 0,k=>(.nil,k)
 | m+1,k=>match l[k]? with
  | none=>(.nil,k)
  | some a =>
   if a.kind=4 then (.node ⟨4,a.op,0,0,0,0⟩ (nA l m (k+1)).1 .nil,(nA l m (k+1)).2)
   else if a.kind=5 then (.node ⟨5,a.op,0,0,0,0⟩ (nA l m (k+1)).1 (nA l m (nA l m (k+1)).2).1,(nA l m (nA l m (k+1)).2).2)
   else (uO a,k+1)
theorem EE {l:List It} {k:Nat} (m:Nat) (h:l[k]? = none):nA l m k=(.nil,k):=by
 cases m with
 | zero=>rfl
 | succ m=>simp [nA,h]
theorem iZ {l:List It} {k:Nat} {a:It} (m:Nat) (h:l[k]? = some a) (h4:a.kind≠4) (h5:a.kind≠5):nA l (m+1) k=(uO a,k+1):=by
 simp only [nA,h];rw [if_neg h4,if_neg h5]
theorem CJ {l:List It} {k:Nat} {a:It} (m:Nat) (h:l[k]? = some a) (h4:a.kind=4) :
  nA l (m+1) k=(.node ⟨4,a.op,0,0,0,0⟩ (nA l m (k+1)).1 .nil,(nA l m (k+1)).2):=by
 simp only [nA,h];rw [if_pos h4]
theorem CK {l:List It} {k:Nat} {a:It} (m:Nat) (h:l[k]? = some a) (h5:a.kind=5) :
  nA l (m+1) k=(.node ⟨5,a.op,0,0,0,0⟩ (nA l m (k+1)).1 (nA l m (nA l m (k+1)).2).1,(nA l m (nA l m (k+1)).2).2):=by
 simp only [nA,h];rw [if_neg (by omega),if_pos h5]
theorem lG {a:It} (h:bn a=true):bA (qO a)=uO a:=by
 have:=xC h;obtain ⟨k,op,n,t,i,x⟩:=a;simp only at this
 unfold qO uO;by_cases h0:k=0
 ·subst h0;simp [bA]
 by_cases h1:k=1
 ·subst h1;simp [bA]
 by_cases h2:k=2
 ·subst h2;simp [bA]
 obtain rfl:k=3:=by omega
 simp [bA]
theorem Tn (l:List It):∀ (m k:Nat),k<=(nA l m k).2/\(nA l m k).2<=max k l.length:=by
 intro m;induction m with
 | zero=>intro k;simp [nA];omega
 | succ m ih =>
  intro k;cases h:l[k]? with
  | none=>rw [EE _ h];simp;omega
  | some a =>
   have hk:k<l.length:=(List.getElem?_eq_some_iff.1 h).1;have i1:=ih (k+1);by_cases h4:a.kind=4
   ·rw [CJ _ h h4];simp only;omega
   by_cases h5:a.kind=5
   ·rw [CK _ h h5]
    have i2:=ih (nA l m (k+1)).2;simp only;omega
   ·rw [iZ _ h h4 h5];simp only;omega
theorem Sp.made {l:List It} {k m:Nat} {e:Ex} (h:Sp l k e m):∀ most,e.depth<=most->nA l most k=(bA e,m):=by
 have pos:∀ {d most:Nat},d+1<=most->∃ n,most=n+1:=fun {d most} h=>⟨most - 1,by omega⟩
 induction h with
 | num h hk =>
  intro most hd;obtain ⟨n,rfl⟩:=pos (d:=0) hd;rw [iZ _ h (by omega) (by omega),<- lG (by simp [bn,hk]),qO,if_pos hk]
 | reg h hk hi =>
  intro most hd;obtain ⟨n,rfl⟩:=pos (d:=0) hd;rw [iZ _ h (by omega) (by omega),<- lG (by simp [bn,hk,hi]),qO,if_neg (by omega),if_pos hk]
 | of h hk ht hi =>
  intro most hd;obtain ⟨n,rfl⟩:=pos (d:=0) hd;rw [iZ _ h (by omega) (by omega),<- lG (by simp [bn,hk,ht,hi]),qO,if_neg (by omega),if_neg (by omega),if_pos hk]
 | loc h hk h1 h2 h3 =>
  intro most hd;obtain ⟨n,rfl⟩:=pos (d:=0) hd;rw [iZ _ h (by omega) (by omega),<- lG (by simp [bn,hk,h1,h2,h3]),qO,if_neg (by omega),if_neg (by omega),if_neg (by omega)]
 | one h hk ho hs ih =>
  intro most hd;simp only [Ex.depth] at hd;obtain ⟨n,rfl⟩:=pos hd;rw [CJ _ h hk,ih n (by omega)];rfl
 | two h hk ho1 ho2 hs1 hs2 ih1 ih2 =>
  intro most hd;simp only [Ex.depth] at hd;obtain ⟨n,rfl⟩:=pos hd;rw [CK _ h hk,ih1 n (by omega)];simp only
  rw [ih2 n (by omega)];rfl
def dS (l:List It):Nat->Nat->Option (Nat × Nat)
 | 0,_=>none
 | f+1,k=>match l[k]? with
  | none=>none
  | some a=>match bf a with
   | none=>none
   | some 0=>some (k+1,1)
   | some 1=>(dS l f (k+1)).map fun p=>(p.1,p.2+1)
   | some _=>(dS l f (k+1)).bind fun p=>(dS l f p.1).map fun q=>(q.1,max p.2 q.2+1)
theorem I5 {l:List It}:∀ (f k m d:Nat),dS l f k=some (m,d)->∃ e,Sp l k e m/\e.depth=d:=by
 intro f;induction f with
 | zero=>intro k m d h;cases h
 | succ f ih =>
  intro k m d h;cases ha:l[k]? with
  | none=>simp [dS,ha] at h
  | some a =>
   simp only [dS,ha] at h
   by_cases h1:a.kind=4/\sides a.op=1
   ·have hp:bf a=some 1:=by unfold bf;rw [if_pos h1]
    rw [hp] at h;obtain ⟨⟨m',d'⟩,hq,hr⟩:=Option.map_eq_some_iff.1 h;obtain ⟨rfl,rfl⟩:=Prod.mk.inj hr;obtain ⟨e,hs,hd⟩:=ih _ _ _ hq;exact ⟨.one a.op e,.one ha h1.1 (oJ.1 h1.2) hs,by simp only [Ex.depth,hd]⟩
   by_cases h2:a.kind=5/\sides a.op=2
   ·have hp:bf a=some 2:=by unfold bf;rw [if_neg h1,if_pos h2]
    rw [hp] at h;obtain ⟨⟨m1,d1⟩,hq,hr⟩:=Option.bind_eq_some_iff.1 h;obtain ⟨⟨m2,d2⟩,hq2,hr2⟩:=Option.map_eq_some_iff.1 hr;obtain ⟨rfl,rfl⟩:=Prod.mk.inj hr2;obtain ⟨e,hs,hd⟩:=ih _ _ _ hq;obtain ⟨e',hs',hd'⟩:=ih _ _ _ hq2;have ho:=jB.1 h2.2;exact ⟨.two a.op e e',.two ha h2.1 ho.1 ho.2 hs hs',by simp only [Ex.depth,hd,hd']⟩
   by_cases h3:bn a=true
   ·have hp:bf a=some 0:=by unfold bf;rw [if_neg h1,if_neg h2,if_pos h3]
    rw [hp] at h;obtain ⟨rfl,rfl⟩:=Prod.mk.inj (Option.some.inj h);exact ⟨qO a,Sp.leaf ha h3,ED a⟩
   ·have hp:bf a=none:=by unfold bf;rw [if_neg h1,if_neg h2,if_neg h3]
    rw [hp] at h;cases h
theorem I6 {l:List It} {k m:Nat} {e:Ex} (h:Sp l k e m):∀ f,l.length<k+f->dS l f k=some (m,e.depth):=by
 have lt:∀ {k:Nat} {a:It},l[k]? = some a->k<l.length:=fun h=>(List.getElem?_eq_some_iff.1 h).1
 have pos:∀ {k:Nat} {a:It} {f:Nat},l[k]? = some a->l.length<k+f->∃ n,f=n+1:=fun {k a f} h h'=>⟨f - 1,by have:=lt h;omega⟩
 have lf:∀ {a:It},bn a=true->bf a=some 0:=fun {a} h=>by
  have:=xC h;rw [EC (by omega) (by omega),if_pos h]
 have leaf:∀ {k:Nat} {a:It} {f:Nat},l[k]? = some a->bn a=true->l.length<k+f->dS l f k=some (k+1,1):=fun {k a f} h h1 h2=>by
  obtain ⟨n,rfl⟩:=pos h h2;simp only [dS,h,lf h1]
 induction h with
 | @num k a h hk=>intro f hf;exact leaf h (by simp [bn,hk]) hf
 | @reg k a h hk hi=>intro f hf;exact leaf h (by simp [bn,hk,hi]) hf
 | @of k a h hk ht hi=>intro f hf;exact leaf h (by simp [bn,hk,ht,hi]) hf
 | @loc k a h hk h1 h2 h3=>intro f hf;exact leaf h (by simp [bn,hk,h1,h2,h3]) hf
 | @one k a e m h hk ho hs ih =>
  intro f hf;obtain ⟨n,rfl⟩:=pos h hf;have hp:bf a=some 1:=by unfold bf;rw [if_pos ⟨hk,oJ.2 ho⟩]
  simp only [dS,h,hp]
  rw [ih n (by omega)];rfl
 | @two k a e f m j h hk ho1 ho2 hs1 hs2 ih1 ih2 =>
  intro f hf;obtain ⟨n,rfl⟩:=pos h hf;have hp:bf a=some 2:=by unfold bf;rw [if_neg (by omega),if_pos ⟨hk,jB.2 ⟨ho1,ho2⟩⟩]
  have:=hs1.le;simp only [dS,h,hp]
  rw [ih1 n (by omega)];simp only [Option.bind_some]
  rw [ih2 n (by omega)];rfl
theorem CL {l:List It} {f k m d:Nat} (h:dS l f k=some (m,d)):k<m/\m<=l.length/\d<=l.length:=by
 obtain ⟨e,hs,rfl⟩:=I5 _ _ _ _ h;have hd:∀ {k m e},Sp l k e m->e.depth<=m - k:=by
  intro k m e hs;induction hs with
  | one _ _ _ hs ih=>have:=hs.le;simp only [Ex.depth];omega
  | two _ _ _ _ hs1 hs2 ih1 ih2=>have:=hs1.le;have:=hs2.le;simp only [Ex.depth];omega
  | _=>simp [Ex.depth]
 have:=hs.le;have:=hd hs;omega
def sign (op:Nat):List UInt8 :=
 [[],[61,61],[33,61],[60],[60,61],[43],[45],[124],[94],[42],[47],[37],[38],[33],[45]].getD op []
def ai (op:Nat):Nat:=if 1<=op/\op<=4 then 1 else if 5<=op/\op<=8 then 2 else if 9<=op/\op<=12 then 3 else if op=13 \/ op=14 then 4 else 0
def Ex.strong:Ex->Nat
 | .one op _=>ai op
 | .two op _ _=>ai op
 | _=>5
def dG (n k:Nat) (s:List UInt8):List UInt8:=if k<n then 40 :: (s ++ [41]) else s
def dec (n:Nat):List UInt8:=Lib.decDigits n
def Ex.text:Ex->List UInt8
 | .num n=>dec n
 | .reg i=>114 :: dec i
 | .of t i=>dec t ++ 58 :: 114 :: dec i
 | .loc x=>[x.toUInt8]
 | .one op a=>sign op ++ dG (ai op) a.strong a.text
 | .two op a b=>dG (ai op) a.strong a.text ++ [32] ++ sign op ++ [32] ++ dG (ai op+1) b.strong b.text
def Ex.vZ:Ex->Bool
 | .one _ _=>false
 | .two _ _ _=>false
 | _=>true
end Go.Proofs.YtaanhmndeobgbaaGreatDoor.Expr
namespace Go.Proofs.YtaanhmndeobgbaaGreatDoor.Expr
open Go.RowKit Mem Go.Lib
def str (l:List UInt8):ByteArray:=⟨l.toArray⟩
theorem EF (i:Nat) (hi:i<100) (w:World) :
  Calls Tryz.prog 105 #[.int .i64 i] w fun e w'=>e = .returned (.string (str (dec i)))/\w=w' :=
 (Tryz.strconv_Itoa_small i hi w).mono fun _ _ h=>⟨h.1,h.2.symm⟩
theorem ig {P:Program} (x y:List UInt8) (h:x.length+y.length<=9223372036854775807) (w:World):(Op.stringOp .add (str x) (str y)).run P w = .ok (.string (str (x ++ y))) w:=by
 rw [run_string_add_sum w _ _ (by simpa [str,ByteArray.size] using h)]
 congr 2
theorem lJ (n:Nat) (h:n<18446744073709551616):(dec n).length<=20:=by
 unfold dec;rw [Lib.decDigits_length];exact Lib.nDigits_le20 n h
theorem jP (i:Nat) (hi:i<8) (w:World) :
  Calls Tryz.prog 141 #[.int .u8 i] w fun e w'=>e = .returned (.string (str (114 :: dec i)))/\w=w':=by
 have hl:=lJ i (by omega);have h1:∀ W,(Op.stringOp .add ⟨#[114]⟩ (str (dec i))).run Tryz.prog W = .ok (.string (str (114 :: dec i))) W:=fun W=>ig [114] (dec i) (by simp;omega) W
 go_enter Tryz.func141,Tryz.ntmps141;go_wp2_with (go_at_call 105;refine (EF _ (by omega) _).mono ?_;rintro e w' ⟨rfl,rfl⟩)
 go_ret;exact ⟨rfl,rfl⟩
def xD (w : World) : Prop := TabIs Tryz.prog w "internal/strconv.uint64pow10" .u64 pow10Tab
theorem xD.below {w w':World} (h:xD w) (hb:Below w.heap.size w w'):xD w':=tabBelow_of_tabIs h w' hb
theorem Gw (u:Nat) (hu64:u<18446744073709551616) (w:World) (hP:xD w) :
  Calls Tryz.prog 70 #[.int .u64 u,.int .i64 10] w fun e w'=>Made (.returned (.string (str (dec u)))) w e w':=by
 by_cases hu:u<100
 ·have iu:(u:Int)<100:=by omega
  go_enter Tryz.func70,Tryz.ntmps70;go_wp2_with (go_at_call 101;refine (Tryz.internal_strconv_small u hu _).mono ?_;rintro e w' ⟨rfl,rfl⟩)
  go_ret;exact ⟨rfl,Below.refl _ _⟩
 ·have hu1:1<=u:=by omega
  have hnd20:nDigits u<=20:=nDigits_le20 u hu64;have hal:Tryz.prog.arrayLen 178=24:=by kernel_rfl
  have hsl:∀ W,(Instr.sliceAt 178 (.pointer (some ⟨w.heap.size,0,none⟩)) none (some (.int .i64 (nDigits u:Int))) none).run Tryz.prog W = .ok (.slice (some ⟨w.heap.size,0,none⟩) (nDigits u) 24) W:=fun W=>by
   rw [run_sliceAt_array_h W 178 ⟨w.heap.size,0,none⟩ (by kernel_rfl) .i64 (nDigits u:Int) (by omega) (by rw [hal];omega)];go_simp
  have hH0:=holds_zero0 w 178 (nDigits u) (by omega);have hfmt:=Tryz.internal_strconv_formatBase10 w.heap.size 0 24 u (Array.replicate (nDigits u) 0) (w.alloc (.cells zeros24 178)) hH0 (by rw [Array.size_replicate];exact lt_pow_nDigits u) hu64 (by rw [Array.size_replicate];omega);rw [Array.size_replicate] at hfmt;have HH0:=hid hH0;have HF:=hid hfmt;have iu:(100:Int)<=(u:Int):=by omega
  clear hH0 hal hfmt;go_enter Tryz.func70,Tryz.ntmps70;go_wp2_with (go_at_call 102;refine (Tryz.internal_strconv_numDigits u hu1 hu64 _ (tabIs_alloc hP _)).mono ?_;rintro e w' ⟨rfl,rfl⟩)
  go_at_call 103
  refine HF.out.mono ?_;rintro e w' ⟨rfl,k,v',dk,rfl,hF⟩;have hcv:(convert 87 9 (.slice (some ⟨w.heap.size,0,none⟩) (nDigits u) 24)).run Tryz.prog ((Sort.putRow (fun (b:UInt8)=>Value.int .u8 (b.toNat:Int)) (w.alloc (.cells zeros24 178)) w.heap.size 0 dk).drewN k) = .ok (.string (str (dec u))) ((Sort.putRow (fun (b:UInt8)=>Value.int .u8 (b.toNat:Int)) (w.alloc (.cells zeros24 178)) w.heap.size 0 dk).drewN k):=by
   have h:=run_convert_bytes_back (P:=Tryz.prog) ((Sort.putRow (fun (b:UInt8)=>Value.int .u8 (b.toNat:Int)) (w.alloc (.cells zeros24 178)) w.heap.size 0 dk).drewN k) 87 9 5 ⟨w.heap.size,0,none⟩ 24 (decDigits u) Tryz.underlying87 Tryz.underlying5 Tryz.underlying9 (fun j hj=>by
    rw [row_is_numeral hF j hj,add_plain,World.cell?_drewN]
    exact Sort.cell?_putRow (fun (b:UInt8)=>Value.int .u8 (b.toNat:Int)) _ w.heap.size 0 _ dk HH0.out (by rw [hF.size,Array.size_replicate]) j (by rw [hF.size];rw [decDigits_length] at hj;exact hj))
   rw [decDigits_length] at h;exact h
  have HB:Hid (Below w.heap.size w ((Sort.putRow (fun (b:UInt8)=>Value.int .u8 (b.toNat:Int)) (w.alloc (.cells zeros24 178)) w.heap.size 0 dk).drewN k)):=by
   obtain ⟨os,eo⟩:=fin_at w (.cells zeros24 178) dk k 0;exact hid (by rw [eo];exact below_grow w.heap.size w (Nat.le_refl _) k os)
  clear HF;generalize (Sort.putRow (fun (b:UInt8)=>Value.int .u8 (b.toNat:Int)) (w.alloc (.cells zeros24 178)) w.heap.size 0 dk).drewN k=W at hcv HB ⊢;go_wp2_with fail
  go_ret;exact ⟨rfl,HB.out⟩
theorem qP (u:Nat) (hu64:u<18446744073709551616) (w:World) (hP:xD w) :
  Calls Tryz.prog 29 #[.int .u64 u,.int .i64 10] w fun e w'=>Made (.returned (.string (str (dec u)))) w e w':=by
 go_enter Tryz.func29,Tryz.ntmps29;go_wp2_with fail
 refine (Gw u hu64 _ hP).mono ?_;rintro e w1 ⟨rfl,hb⟩;go_wp2_with fail
 go_ret;exact ⟨rfl,hb⟩
def pE (w:World):Prop:=Num.rU w/\xD w
theorem pE.below {w w':World} (h:pE w) (hb:Below w.heap.size w w'):pE w':=⟨h.1.below hb,h.2.below hb⟩
def aM (a:It) (lv rv:Value):Array Value:=#[.int .u8 a.kind,.int .u8 a.op,.int .u64 a.n,.int .u8 a.t,.int .u8 a.i,.int .u8 a.x,lv,rv]
def jQ:Ex->It
 | .num n=>⟨0,0,n,0,0,0⟩
 | .reg i=>⟨1,0,0,0,i,0⟩
 | .of t i=>⟨2,0,0,t,i,0⟩
 | .loc x=>⟨3,0,0,0,0,x⟩
 | .one op _=>⟨4,op,0,0,0,0⟩
 | .two op _ _=>⟨5,op,0,0,0,0⟩
def lK (e:Ex):Value:=.agg (aM (jQ e) (.pointer none) (.pointer none))
theorem jR (op:Nat) (w:World) :
  Calls Tryz.prog 83 #[.int .u8 op] w fun e w'=>e = .returned (.int .i64 (ai op))/\w=w':=by
 by_cases h1:1<=op/\op<=4
 ·have a1:(1:Int)<=(op:Int):=by omega
  have a2:(op:Int)<=4:=by omega
  have e:ai op=1:=by unfold ai;rw [if_pos h1]
  rw [e];clear e;go_enter Tryz.func83,Tryz.ntmps83;go_wp2
  go_ret;exact ⟨rfl,rfl⟩
 by_cases h2:5<=op/\op<=8
 ·have a1:(5:Int)<=(op:Int):=by omega
  have a2:(op:Int)<=8:=by omega
  have e:ai op=2:=by unfold ai;rw [if_neg h1,if_pos h2]
  rw [e];clear e;go_enter Tryz.func83,Tryz.ntmps83;go_wp2
  go_ret;exact ⟨rfl,rfl⟩
 by_cases h3:9<=op/\op<=12
 ·have a1:(9:Int)<=(op:Int):=by omega
  have a2:(op:Int)<=12:=by omega
  have e:ai op=3:=by unfold ai;rw [if_neg h1,if_neg h2,if_pos h3]
  rw [e];clear e;go_enter Tryz.func83,Tryz.ntmps83;go_wp2
  go_ret;exact ⟨rfl,rfl⟩
 by_cases Tp:op=13
 ·subst Tp
  go_enter Tryz.func83,Tryz.ntmps83;go_wp2
  go_ret;exact ⟨rfl,rfl⟩
 by_cases h14:op=14
 ·subst h14
  go_enter Tryz.func83,Tryz.ntmps83;go_wp2
  go_ret;exact ⟨rfl,rfl⟩
 have e:ai op=0:=by unfold ai;rw [if_neg h1,if_neg h2,if_neg h3,if_neg (by omega)]
 rw [e];clear e;have e1:((op:Int) == 13)=false:=beq_eq_false_iff_ne.2 (by omega);have e2:((op:Int) == 14)=false:=beq_eq_false_iff_ne.2 (by omega);by_cases hz:op=0
 ·subst hz
  go_enter Tryz.func83,Tryz.ntmps83;go_wp2
  go_ret;exact ⟨rfl,rfl⟩
 ·have a1:(14:Int)<(op:Int):=by omega
  go_enter Tryz.func83,Tryz.ntmps83;go_wp2
  go_ret;exact ⟨rfl,rfl⟩
theorem EG (n:Nat) (hn:n<18446744073709551616) (w:World) (hT:pE w) :
  Calls Tryz.prog 109 #[lK (.num n)] w fun e' w'=>Made (.returned (.string (str (dec n)))) w e' w':=by
 have hP:=(pE.below hT ((Below.refl _ w).alloc (Nat.le_refl _) (.cells #[.int .u8 0,.int .u8 0,.int .u64 n,.int .u8 0,.int .u8 0,.int .u8 0,.pointer none,.pointer none] 159))).2;show Calls _ _ #[.agg #[.int .u8 0,.int .u8 0,.int .u64 n,.int .u8 0,.int .u8 0,.int .u8 0,.pointer none,.pointer none]] _ _
 go_enter Tryz.func109,Tryz.ntmps109;go_wp2_with fail
 go_at_call 29
 refine (qP n hn _ hP).mono ?_;rintro e w1 ⟨rfl,hb⟩;go_wp2_with fail
 go_ret;exact ⟨rfl,Below.boxed _ _ hb⟩
theorem EH (i:Nat) (hi:i<8) (w:World) :
  Calls Tryz.prog 109 #[lK (.reg i)] w fun e' w'=>Made (.returned (.string (str (114 :: dec i)))) w e' w':=by
 show Calls _ _ #[.agg #[.int .u8 1,.int .u8 0,.int .u64 0,.int .u8 0,.int .u8 i,.int .u8 0,.pointer none,.pointer none]] _ _
 go_enter Tryz.func109,Tryz.ntmps109;go_wp2_with (go_at_call 141;refine (jP _ hi _).mono ?_;rintro e w' ⟨rfl,rfl⟩)
 go_ret;exact ⟨rfl,(Below.refl _ _).alloc (Nat.le_refl _) _⟩
theorem Gx (t i:Nat) (ht:t<4) (hi:i<8) (w:World) :
  Calls Tryz.prog 109 #[lK (.of t i)] w fun e' w'=>Made (.returned (.string (str (dec t ++ 58 :: 114 :: dec i)))) w e' w':=by
 have l1:=lJ t (by omega);have l2:=lJ i (by omega);have h1:∀ W,(Op.stringOp .add (str (dec t)) ⟨#[58]⟩).run Tryz.prog W = .ok (.string (str (dec t ++ [58]))) W:=fun W=>ig (dec t) [58] (by simp;omega) W
 have h2:∀ W,(Op.stringOp .add (str (dec t ++ [58])) (str (114 :: dec i))).run Tryz.prog W = .ok (.string (str (dec t ++ [58] ++ 114 :: dec i))) W:=fun W=>ig _ _ (by simp;omega) W
 clear l1 l2;have hw:IntKind.i64.wrap (t:Int)=t:=IntWalk.i64_in _ (by omega);show Calls _ _ #[.agg #[.int .u8 2,.int .u8 0,.int .u64 0,.int .u8 t,.int .u8 i,.int .u8 0,.pointer none,.pointer none]] _ _
 go_enter Tryz.func109,Tryz.ntmps109;go_wp2_with fail
 go_quiet ((first | (go_at_call 105;exact Ez (EF t (Nat.lt_trans ht (by decide)) _)) | (go_at_call 141;exact Ez (jP i hi _))))
 go_wp2
 go_ret;exact ⟨rfl,bu ((Below.refl _ _).alloc (Nat.le_refl _) _) _⟩
theorem AA (x:Nat) (hx:97<=x/\x<=122):Utf8.encode x=str [x.toUInt8]:=by
 have h:∀ y:Fin 26,Utf8.encode ((97+y.val:Nat):Int)=str [(97+y.val).toUInt8]:=by decide +kernel
 have:=h ⟨x - 97,by omega⟩;simp only at this
 rw [show 97+(x - 97)=x by omega] at this;exact this
theorem EI (x:Nat) (hx:97<=x/\x<=122) (w:World) :
  Calls Tryz.prog 109 #[lK (.loc x)] w fun e' w'=>Made (.returned (.string (str [x.toUInt8]))) w e' w':=by
 have HE:=hid (AA x hx);show Calls _ _ #[.agg #[.int .u8 3,.int .u8 0,.int .u64 0,.int .u8 0,.int .u8 0,.int .u8 x,.pointer none,.pointer none]] _ _
 go_enter Tryz.func109,Tryz.ntmps109;go_wp2_with fail
 go_ret;exact ⟨I1 HE.out,(Below.refl _ _).alloc (Nat.le_refl _) _⟩
theorem EJ (e:Ex) (hl:e.vZ=true) (ho:e.ok) (w:World) (hT:pE w) :
  Calls Tryz.prog 109 #[lK e] w fun e' w'=>Made (.returned (.string (str e.text))) w e' w':=by
 cases e with
 | one op a=>cases hl
 | two op a b=>cases hl
 | num n=>exact EG n ho w hT
 | reg i=>exact EH i ho w
 | of t i=>exact Gx t i ho.1 ho.2 w
 | loc x=>exact EI x ⟨ho.1,ho.2.1⟩ w
theorem qQ (l:List UInt8) (k n:Nat) (hl:l.length<=1000000) (w:World) :
  Calls Tryz.prog 112 #[.agg #[.string (str l),.int .i64 k],.int .i64 n] w fun e' w'=>Made (.returned (.string (str (dG n k l)))) w e' w':=by
 by_cases h:k<n
 ·have e:dG n k l=40 :: (l ++ [41]):=by unfold dG;rw [if_pos h]
  rw [e];clear e;have h1:∀ W,(Op.stringOp .add ⟨#[40]⟩ (str l)).run Tryz.prog W = .ok (.string (str (40 :: l))) W:=fun W=>ig [40] l (by simp;omega) W
  have h2:∀ W,(Op.stringOp .add (str (40 :: l)) ⟨#[41]⟩).run Tryz.prog W = .ok (.string (str (40 :: (l ++ [41])))) W:=fun W=>ig (40 :: l) [41] (by simp;omega) W
  have i1:(k:Int)<(n:Int):=by omega
  clear hl;go_enter Tryz.func112,Tryz.ntmps112;go_wp2_with fail
  go_ret;exact ⟨rfl,(Below.refl _ _).alloc (Nat.le_refl _) _⟩
 ·have e:dG n k l=l:=by unfold dG;rw [if_neg h]
  rw [e];clear e;have i1:(n:Int)<=(k:Int):=by omega
  go_enter Tryz.func112,Tryz.ntmps112;go_wp2_with fail
  go_ret;exact ⟨rfl,(Below.refl _ _).alloc (Nat.le_refl _) _⟩
def RU (a:It):Value:=.agg #[.int .u8 a.kind,.int .u8 a.op,.int .u64 a.n,.int .u8 a.t,.int .u8 a.i,.int .u8 a.x]
theorem Mj (a:It) (w:World):Calls Tryz.prog 127 #[RU a] w fun e' w'=>Made (.returned (.bool (bn a))) w e' w':=by
 obtain ⟨k,op,n,t,i,x⟩:=a;show Calls _ _ #[.agg #[.int .u8 k,.int .u8 op,.int .u64 n,.int .u8 t,.int .u8 i,.int .u8 x]] _ _
 by_cases h0:k=0
 ·subst h0
  go_enter Tryz.func127,Tryz.ntmps127;go_wp2
  go_ret;exact ⟨rfl,(Below.refl _ _).alloc (Nat.le_refl _) _⟩
 by_cases h1:k=1
 ·subst h1
  go_enter Tryz.func127,Tryz.ntmps127;go_wp2
  go_ret;exact ⟨cZ (by simp [bn];omega),(Below.refl _ _).alloc (Nat.le_refl _) _⟩
 by_cases h2:k=2
 ·subst h2
  by_cases ht:t<4
  ·have e:bn ⟨2,op,n,t,i,x⟩=decide ((i:Int)<8):=by simp [bn,ht];omega
   rw [e];clear e;have i1:(t:Int)<4:=by omega
   go_enter Tryz.func127,Tryz.ntmps127;go_wp2
   go_ret;exact ⟨rfl,(Below.refl _ _).alloc (Nat.le_refl _) _⟩
  ·have e:bn ⟨2,op,n,t,i,x⟩=false:=by simp [bn,ht]
   rw [e];clear e;have i1:(4:Int)<=t:=by omega
   go_enter Tryz.func127,Tryz.ntmps127;go_wp2
   go_ret;exact ⟨rfl,(Below.refl _ _).alloc (Nat.le_refl _) _⟩
 by_cases h3:k=3
 ·subst h3
  by_cases ha:97<=x
  ·have i1:(97:Int)<=x:=by omega
   by_cases hb:x<=122
   ·have e:bn ⟨3,op,n,t,i,x⟩=((x:Int) != 114):=by
     by_cases hx:x=114
     ·subst hx;rfl
     ·have h:((x:Int) != 114)=true:=by rw [bne_iff_ne];omega
      rw [h];simp [bn,ha,hb,hx]
    rw [e];clear e;have i2:(x:Int)<=122:=by omega
    go_enter Tryz.func127,Tryz.ntmps127;go_wp2
    go_ret;exact ⟨rfl,(Below.refl _ _).alloc (Nat.le_refl _) _⟩
   ·have e:bn ⟨3,op,n,t,i,x⟩=false:=by simp [bn,hb]
    rw [e];clear e;have i2:(122:Int)<x:=by omega
    go_enter Tryz.func127,Tryz.ntmps127;go_wp2
    go_ret;exact ⟨rfl,(Below.refl _ _).alloc (Nat.le_refl _) _⟩
  ·have e:bn ⟨3,op,n,t,i,x⟩=false:=by simp [bn,ha]
   rw [e];clear e;have i2:(x:Int)<97:=by omega
   go_enter Tryz.func127,Tryz.ntmps127;go_wp2
   go_ret;exact ⟨rfl,(Below.refl _ _).alloc (Nat.le_refl _) _⟩
 have e:bn ⟨k,op,n,t,i,x⟩=false:=by simp [bn,h0,h1,h2,h3]
 rw [e];clear e;have e0:((k:Int) == 0)=false:=beq_eq_false_iff_ne.2 (by omega);have e1:((k:Int) == 1)=false:=beq_eq_false_iff_ne.2 (by omega);have e2:((k:Int) == 2)=false:=beq_eq_false_iff_ne.2 (by omega);have e3:((k:Int) == 3)=false:=beq_eq_false_iff_ne.2 (by omega);clear h0 h1 h2 h3;go_enter Tryz.func127,Tryz.ntmps127;go_wp2
 go_ret;exact ⟨rfl,(Below.refl _ _).alloc (Nat.le_refl _) _⟩
theorem yN (op:Nat):Num.qN (op:Int)=(sides op:Nat):=by
 unfold Num.qN sides;by_cases h:1<=op/\op<=12
 ·rw [if_pos h,if_pos (by omega)];rfl
 ·rw [if_neg h,if_neg (by omega)]
  by_cases h2:op=13 \/ op=14
  ·rw [if_pos h2,if_pos (by omega)];rfl
  ·rw [if_neg h2,if_neg (by omega)];rfl
theorem jC (op:Nat) (w:World):Calls Tryz.prog 111 #[.int .u8 op] w fun e w'=>e = .returned (.int .i64 (sides op:Nat))/\w=w':=by
 rw [<- yN];exact Num.JX op w
theorem pF (op:Nat) (w:World):Calls Tryz.prog 126 #[.int .u8 op] w fun e w'=>e = .returned (.int .i64 (sides op:Nat))/\w=w':=by
 rw [<- yN];exact Num.Gs op w
def kY (a:It):Int:=match bf a with
 | some n=>n
 | none => -1
theorem EK {a:It} (h:bf a=if bn a then some 0 else none):kY a=if bn a then 0 else -1:=by
 unfold kY;rw [h];split <;> split <;> simp_all
theorem rW (a:It) (w:World):Calls Tryz.prog 90 #[RU a] w fun e' w'=>Made (.returned (.int .i64 (kY a))) w e' w':=by
 by_cases h1:a.kind=4/\sides a.op=1
 ·have e:kY a=1:=by unfold kY bf;rw [if_pos h1];rfl
  rw [e];clear e;obtain ⟨k,op,n,t,i,x⟩:=a;obtain ⟨rfl,hs⟩:=h1;have HS:=hid hs;clear hs;show Calls _ _ #[.agg #[.int .u8 4,.int .u8 op,.int .u64 n,.int .u8 t,.int .u8 i,.int .u8 x]] _ _
  go_enter Tryz.func90,Tryz.ntmps90;go_wp2_with (go_at_call 126;refine (pF _ _).mono ?_;rw [HS.out];rintro e w' ⟨rfl,rfl⟩)
  go_ret;exact ⟨rfl,(Below.refl _ _).alloc (Nat.le_refl _) _⟩
 by_cases h2:a.kind=5/\sides a.op=2
 ·have e:kY a=2:=by unfold kY bf;rw [if_neg h1,if_pos h2];rfl
  rw [e];clear e h1;obtain ⟨k,op,n,t,i,x⟩:=a;obtain ⟨rfl,hs⟩:=h2;have HS:=hid hs;clear hs;show Calls _ _ #[.agg #[.int .u8 5,.int .u8 op,.int .u64 n,.int .u8 t,.int .u8 i,.int .u8 x]] _ _
  go_enter Tryz.func90,Tryz.ntmps90;go_wp2_with (go_at_call 126;refine (pF _ _).mono ?_;rw [HS.out];rintro e w' ⟨rfl,rfl⟩)
  go_ret;exact ⟨rfl,(Below.refl _ _).alloc (Nat.le_refl _) _⟩
 have HP:=hid (EK (a:=a) (by unfold bf;rw [if_neg h1,if_neg h2]));have wh:=hid (fun W=>Mj a W);generalize kY a=q at HP ⊢;generalize bn a=b at HP wh;obtain ⟨k,op,n,t,i,x⟩:=a;simp only at h1 h2
 have hend:∀ w1:World,Below (w.alloc (.cells #[.int .u8 k,.int .u8 op,.int .u64 n,.int .u8 t,.int .u8 i,.int .u8 x] 166)).heap.size (w.alloc (.cells #[.int .u8 k,.int .u8 op,.int .u64 n,.int .u8 t,.int .u8 i,.int .u8 x] 166)) w1->Below w.heap.size w w1:=fun w1 h=>Below.boxed _ _ h
 have HE:=hid hend;clear hend;show Calls _ _ #[.agg #[.int .u8 k,.int .u8 op,.int .u64 n,.int .u8 t,.int .u8 i,.int .u8 x]] _ _
 by_cases h4:k=4
 ·subst h4
  have hs:(((sides op:Nat):Int) == 1)=false:=beq_eq_false_iff_ne.2 (by have:=fun h=>h1 ⟨rfl,h⟩;omega);clear h1 h2;cases b
  all_goals
   go_enter Tryz.func90,Tryz.ntmps90;go_wp2_with (first | (go_at_call 126;refine (pF _ _).mono ?_;rintro e w' ⟨rfl,rfl⟩) | (go_at_call 127;refine (wh.out _).mono ?_;rintro e w1 ⟨rfl,hb⟩;have HB:=hid hb;clear hb))
   go_ret;exact ⟨jO (by rw [HP.out];rfl),HE.out _ HB.out⟩
 by_cases h5:k=5
 ·subst h5
  have hs:(((sides op:Nat):Int) == 2)=false:=beq_eq_false_iff_ne.2 (by have:=fun h=>h2 ⟨rfl,h⟩;omega);clear h1 h2;cases b
  all_goals
   go_enter Tryz.func90,Tryz.ntmps90;go_wp2_with (first | (go_at_call 126;refine (pF _ _).mono ?_;rintro e w' ⟨rfl,rfl⟩) | (go_at_call 127;refine (wh.out _).mono ?_;rintro e w1 ⟨rfl,hb⟩;have HB:=hid hb;clear hb))
   go_ret;exact ⟨jO (by rw [HP.out];rfl),HE.out _ HB.out⟩
 have e4:((k:Int) == 4)=false:=beq_eq_false_iff_ne.2 (by omega);have e5:((k:Int) == 5)=false:=beq_eq_false_iff_ne.2 (by omega);clear h1 h2 h4 h5;cases b
 all_goals
  go_enter Tryz.func90,Tryz.ntmps90;go_wp2_with (go_at_call 127;refine (wh.out _).mono ?_;rintro e w1 ⟨rfl,hb⟩;have HB:=hid hb;clear hb)
  go_ret;exact ⟨jO (by rw [HP.out];rfl),HE.out _ HB.out⟩
end Go.Proofs.YtaanhmndeobgbaaGreatDoor.Expr
