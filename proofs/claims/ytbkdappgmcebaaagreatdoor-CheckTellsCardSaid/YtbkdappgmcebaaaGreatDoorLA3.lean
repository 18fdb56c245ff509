/- Part 4 of the proof: what is used of the texts ExprS, ExprT, ExprA. -/
import Derived.KernelRfl
import Derived.Lib.ItoaNum
import Derived.Test.YtbkdappgmcebaaaGreatDoorLA1
import Derived.Test.YtbkdappgmcebaaaGreatDoorLA2
import Derived.Shelf.Strings.Builder1
import Derived.Shelf.Strings.Builder2
import Derived.Shelf.Strings.OnBuilder
import Derived.Shelf.Small.Strs
import Derived.Shelf.Strings.BuilderF
import Derived.Shelf.Strings.BuilderK
import Derived.Shelf.Strings.Builder2Cap
import Derived.Shelf.Strconv.Itoa0
import Derived.Shelf.Strconv.Itoa1
import Derived.Shelf.LaysM
import Derived.Shelf.Strconv.Itoa2
import Derived.Shelf.Strconv.Itoa3
import Derived.Shelf.Strings.Search1
import Derived.Shelf.Strings.Prefix
import Derived.Shelf.Bits.Mul64
import Derived.Shelf.Strings.Repeat
import Derived.Shelf.Strings.BuilderCap
import Derived.Test.YtbkdappgmcebaaaGreatDoorProg
import Derived.Lib.ItoaMem
import Derived.Lib.ItoaLen
import Derived.Lib.AppendIntMem
section
namespace Go.Proofs.YtbkdappgmcebaaaGreatDoor.Expr
structure It where
  kind:Nat
  op:Nat
  n:Nat
  t:Nat
  i:Nat
  x:Nat
deriving DecidableEq
inductive Tr
  | nil
  | node (a:It) (l r:Tr)
deriving DecidableEq
inductive Ex
  | num (n:Nat)
  | reg (i:Nat)
  | of (t i:Nat)
  | loc (x:Nat)
  | one (op:Nat) (a:Ex)
  | two (op:Nat) (a b:Ex)
deriving DecidableEq
def Tr.isNil:Tr->Bool
  | .nil=>true
  | .node _ _ _=>false
def sides (op:Nat):Nat:=if 1<=op/\op<=12 then 2 else if op=13 \/ op=14 then 1 else 0
def leafOk (a:It):Bool :=
  if a.kind=0 then true
  else if a.kind=1 then decide (a.i<8)
  else if a.kind=2 then decide (a.t<4) && decide (a.i<8)
  else if a.kind=3 then decide (97<=a.x) && decide (a.x<=122) && decide (a.x≠114)
  else false
def bare (a:It) (l r:Tr):Bool :=
  (decide (a.op=0) || (a.kind == 4 || a.kind == 5)) && (decide (a.n=0) || a.kind == 0) && (decide (a.t=0) || a.kind == 2) && (decide (a.i=0) || (a.kind == 1 || a.kind == 2)) &&
    (decide (a.x=0) || a.kind == 3) && (l.isNil || (a.kind == 4 || a.kind == 5)) && (r.isNil || a.kind == 5)
def fitsF:Tr->Nat->Bool
  | .nil,_=>false
  | .node _ _ _,0=>false
  | .node a l r,room+1=>(if a.kind=4 then decide (sides a.op=1) && fitsF l room else if a.kind=5 then decide (sides a.op=2) && fitsF l room && fitsF r room else leafOk a) && bare a l r
def deepF:Tr->Nat->Nat
  | .nil,_=>0
  | .node _ _ _,0=>0
  | .node _ l r,m+1=>1+max (deepF l m) (deepF r m)
def treeOf:Ex->Tr
  | .num n => .node ⟨0,0,n,0,0,0⟩ .nil .nil
  | .reg i => .node ⟨1,0,0,0,i,0⟩ .nil .nil
  | .of t i => .node ⟨2,0,0,t,i,0⟩ .nil .nil
  | .loc x => .node ⟨3,0,0,0,0,x⟩ .nil .nil
  | .one op a => .node ⟨4,op,0,0,0,0⟩ (treeOf a) .nil
  | .two op a b => .node ⟨5,op,0,0,0,0⟩ (treeOf a) (treeOf b)
def Ex.depth:Ex->Nat
  | .one _ a=>a.depth+1
  | .two _ a b=>max a.depth b.depth+1
  | _=>1
def Ex.ok:Ex->Prop
  | .num n=>n<18446744073709551616
  | .reg i=>i<8
  | .of t i=>t<4/\i<8
  | .loc x=>97<=x/\x<=122/\x≠114
  | .one op a=>(op=13 \/ op=14)/\a.ok
  | .two op a b=>1<=op/\op<=12/\a.ok/\b.ok
def It.bd (a:It):Prop:=a.kind<256/\a.op<256/\a.n<18446744073709551616/\a.t<256/\a.i<256/\a.x<256
theorem depth_pos (e:Ex):1<=e.depth:=by cases e <;> simp [Ex.depth]
theorem sides_one {op:Nat}:sides op=1 ↔ op=13 \/ op=14:=by
  unfold sides
  by_cases h:1<=op/\op<=12
  · rw [if_pos h];omega
  · rw [if_neg h]
    by_cases h2:op=13 \/ op=14
    · rw [if_pos h2];simp [h2]
    · rw [if_neg h2];simp [h2]
theorem sides_two {op:Nat}:sides op=2 ↔ 1<=op/\op<=12:=by
  unfold sides
  by_cases h:1<=op/\op<=12
  · rw [if_pos h];simp [h]
  · rw [if_neg h]
    by_cases h2:op=13 \/ op=14
    · rw [if_pos h2];simp [h]
    · rw [if_neg h2];simp [h]
theorem fits_of (e:Ex) (h:e.ok):∀ room,e.depth<=room->fitsF (treeOf e) room=true:=by
  induction e with
  | one op a ih =>
    intro room hr
    obtain ⟨m,rfl⟩:∃ m,room=m+1:=⟨room - 1,by simp only [Ex.depth] at hr;omega⟩
    have h1:sides op=1:=sides_one.2 h.1
    simp only [Ex.depth] at hr
    simp [treeOf,fitsF,bare,h1,ih h.2 m (by omega),Tr.isNil]
  | two op a b iha ihb =>
    intro room hr
    obtain ⟨m,rfl⟩:∃ m,room=m+1:=⟨room - 1,by simp only [Ex.depth] at hr;omega⟩
    have h1:sides op=2:=sides_two.2 ⟨h.1,h.2.1⟩
    simp only [Ex.depth] at hr
    simp [treeOf,fitsF,bare,h1,iha h.2.2.1 m (by omega),ihb h.2.2.2 m (by omega)]
  | num n =>
    intro room hr
    obtain ⟨m,rfl⟩:∃ m,room=m+1:=⟨room - 1,by simp only [Ex.depth] at hr;omega⟩
    simp [treeOf,fitsF,bare,leafOk,Tr.isNil]
  | reg i =>
    intro room hr
    obtain ⟨m,rfl⟩:∃ m,room=m+1:=⟨room - 1,by simp only [Ex.depth] at hr;omega⟩
    have h1:i<8:=h
    simp only [treeOf,fitsF,bare,leafOk,Tr.isNil]
    simpa using h1
  | of t i =>
    intro room hr
    obtain ⟨m,rfl⟩:∃ m,room=m+1:=⟨room - 1,by simp only [Ex.depth] at hr;omega⟩
    have h1:t<4/\i<8:=h
    simp only [treeOf,fitsF,bare,leafOk,Tr.isNil]
    simpa using h1
  | loc x =>
    intro room hr
    obtain ⟨m,rfl⟩:∃ m,room=m+1:=⟨room - 1,by simp only [Ex.depth] at hr;omega⟩
    have h1:97<=x/\x<=122/\x≠114:=h
    simp [treeOf,fitsF,bare,leafOk,Tr.isNil,h1]
theorem deepF_le:∀ (t:Tr) (m:Nat),deepF t m<=m:=by
  intro t
  induction t with
  | nil=>intro m;simp [deepF]
  | node a l r ihl ihr =>
    intro m
    cases m with
    | zero=>simp [deepF]
    | succ m=>have:=ihl m;have:=ihr m;simp only [deepF];omega
inductive Sp (l:List It):Nat->Ex->Nat->Prop
  | num {k a}:l[k]? = some a->a.kind=0->Sp l k (.num a.n) (k+1)
  | reg {k a}:l[k]? = some a->a.kind=1->a.i<8->Sp l k (.reg a.i) (k+1)
  | of {k a}:l[k]? = some a->a.kind=2->a.t<4->a.i<8->Sp l k (.of a.t a.i) (k+1)
  | loc {k a}:l[k]? = some a->a.kind=3->97<=a.x->a.x<=122->a.x≠114->Sp l k (.loc a.x) (k+1)
  | one {k a e m}:l[k]? = some a->a.kind=4->(a.op=13 \/ a.op=14)->Sp l (k+1) e m->Sp l k (.one a.op e) m
  | two {k a e f m j}:l[k]? = some a->a.kind=5->1<=a.op->a.op<=12->Sp l (k+1) e m->Sp l m f j->Sp l k (.two a.op e f) j
def partsF (a:It):Option Nat :=
  if a.kind=4/\sides a.op=1 then some 1 else if a.kind=5/\sides a.op=2 then some 2 else if leafOk a then some 0 else none
theorem partsF_leaf {a:It} (h4:a.kind≠4) (h5:a.kind≠5):partsF a=if leafOk a then some 0 else none:=by
  unfold partsF;rw [if_neg (fun h=>h4 h.1),if_neg (fun h=>h5 h.1)]
theorem leafOk_kind {a:It} (h:leafOk a=true):a.kind<4:=by
  unfold leafOk at h
  repeat' split at h
  all_goals first | omega | cases h
def leafE (a:It):Ex:=if a.kind=0 then .num a.n else if a.kind=1 then .reg a.i else if a.kind=2 then .of a.t a.i else .loc a.x
theorem leafE_depth (a:It):(leafE a).depth=1:=by
  unfold leafE;split;rfl;split;rfl;split <;> rfl
theorem Sp.leaf {l:List It} {k:Nat} {a:It} (h:l[k]? = some a) (hl:leafOk a=true):Sp l k (leafE a) (k+1):=by
  unfold leafOk at hl
  unfold leafE
  by_cases h0:a.kind=0
  · rw [if_pos h0];exact .num h h0
  rw [if_neg h0] at hl ⊢
  by_cases h1:a.kind=1
  · rw [if_pos h1] at hl ⊢;exact .reg h h1 (by simpa using hl)
  rw [if_neg h1] at hl ⊢
  by_cases h2:a.kind=2
  · rw [if_pos h2] at hl ⊢
    have:=(Bool.and_eq_true _ _).mp hl
    exact .of h h2 (by simpa using this.1) (by simpa using this.2)
  rw [if_neg h2] at hl ⊢
  by_cases h3:a.kind=3
  · rw [if_pos h3] at hl
    simp only [Bool.and_eq_true,decide_eq_true_eq] at hl
    exact .loc h h3 hl.1.1 hl.1.2 hl.2
  · rw [if_neg h3] at hl;cases hl
theorem Sp.le {l:List It} {k m:Nat} {e:Ex} (h:Sp l k e m):k<m/\m<=l.length:=by
  have lt:∀ {k:Nat} {a:It},l[k]? = some a->k<l.length:=fun h=>by
    rcases List.getElem?_eq_some_iff.1 h with ⟨h,_⟩;exact h
  induction h with
  | num h _=>have:=lt h;omega
  | reg h _ _=>have:=lt h;omega
  | of h _ _ _=>have:=lt h;omega
  | loc h _ _ _ _=>have:=lt h;omega
  | one h _ _ _ ih=>omega
  | two h _ _ _ _ _ ih1 ih2=>omega
theorem Sp.det {l:List It} {k m:Nat} {e:Ex} (h:Sp l k e m):∀ {e' m'},Sp l k e' m' -> e=e' /\ m=m':=by
  have inj:∀ {k:Nat} {a b:It},l[k]? = some a->l[k]? = some b->a=b:=fun h h'=>by rw [h] at h';exact Option.some.inj h'
  induction h with
  | num h hk=>intro e' m' h';cases h' <;> (have e:=inj h ‹_›;subst e) <;> first | exact ⟨rfl,rfl⟩ | omega
  | reg h hk _=>intro e' m' h';cases h' <;> (have e:=inj h ‹_›;subst e) <;> first | exact ⟨rfl,rfl⟩ | omega
  | of h hk _ _=>intro e' m' h';cases h' <;> (have e:=inj h ‹_›;subst e) <;> first | exact ⟨rfl,rfl⟩ | omega
  | loc h hk _ _ _=>intro e' m' h';cases h' <;> (have e:=inj h ‹_›;subst e) <;> first | exact ⟨rfl,rfl⟩ | omega
  | one h hk ho hs ih =>
    intro e' m' h'
    cases h' with
    | one h2 _ _ hs2 =>
      have e:=inj h h2;subst e
      obtain ⟨rfl,rfl⟩:=ih hs2
      exact ⟨rfl,rfl⟩
    | _=>have e:=inj h ‹_›;subst e;omega
  | two h hk ho1 ho2 hs1 hs2 ih1 ih2 =>
    intro e' m' h'
    cases h' with
    | two h2 _ _ _ hs1' hs2' =>
      have e:=inj h h2;subst e
      obtain ⟨rfl,rfl⟩:=ih1 hs1'
      obtain ⟨rfl,rfl⟩:=ih2 hs2'
      exact ⟨rfl,rfl⟩
    | _=>have e:=inj h ‹_›;subst e;omega
def leafT (a:It):Tr:=.node ⟨a.kind,0,if a.kind=0 then a.n else 0,if a.kind=2 then a.t else 0,if a.kind=1 \/ a.kind=2 then a.i else 0,if a.kind=3 then a.x else 0⟩ .nil .nil
def ofF (l:List It):Nat->Nat->Tr × Nat
  | 0,k=>(.nil,k)
  | m+1,k=>match l[k]? with
    | none=>(.nil,k)
    | some a =>
      if a.kind=4 then (.node ⟨4,a.op,0,0,0,0⟩ (ofF l m (k+1)).1 .nil,(ofF l m (k+1)).2)
      else if a.kind=5 then (.node ⟨5,a.op,0,0,0,0⟩ (ofF l m (k+1)).1 (ofF l m (ofF l m (k+1)).2).1,(ofF l m (ofF l m (k+1)).2).2)
      else (leafT a,k+1)
theorem ofF_none {l:List It} {k:Nat} (m:Nat) (h:l[k]? = none):ofF l m k=(.nil,k):=by
  cases m with
  | zero=>rfl
  | succ m=>simp [ofF,h]
theorem ofF_leaf {l:List It} {k:Nat} {a:It} (m:Nat) (h:l[k]? = some a) (h4:a.kind≠4) (h5:a.kind≠5):ofF l (m+1) k=(leafT a,k+1):=by
  simp only [ofF,h];rw [if_neg h4,if_neg h5]
theorem ofF_one {l:List It} {k:Nat} {a:It} (m:Nat) (h:l[k]? = some a) (h4:a.kind=4) :
    ofF l (m+1) k=(.node ⟨4,a.op,0,0,0,0⟩ (ofF l m (k+1)).1 .nil,(ofF l m (k+1)).2):=by
  simp only [ofF,h];rw [if_pos h4]
theorem ofF_two {l:List It} {k:Nat} {a:It} (m:Nat) (h:l[k]? = some a) (h5:a.kind=5) :
    ofF l (m+1) k=(.node ⟨5,a.op,0,0,0,0⟩ (ofF l m (k+1)).1 (ofF l m (ofF l m (k+1)).2).1,(ofF l m (ofF l m (k+1)).2).2):=by
  simp only [ofF,h];rw [if_neg (by omega),if_pos h5]
theorem treeOf_leafE {a:It} (h:leafOk a=true):treeOf (leafE a)=leafT a:=by
  have:=leafOk_kind h
  obtain ⟨k,op,n,t,i,x⟩:=a
  simp only at this
  unfold leafE leafT
  by_cases h0:k=0
  · subst h0;simp [treeOf]
  by_cases h1:k=1
  · subst h1;simp [treeOf]
  by_cases h2:k=2
  · subst h2;simp [treeOf]
  obtain rfl:k=3:=by omega
  simp [treeOf]
theorem ofF_le (l:List It):∀ (m k:Nat),k<=(ofF l m k).2/\(ofF l m k).2<=max k l.length:=by
  intro m
  induction m with
  | zero=>intro k;simp [ofF];omega
  | succ m ih =>
    intro k
    cases h:l[k]? with
    | none=>rw [ofF_none _ h];simp;omega
    | some a =>
      have hk:k<l.length:=(List.getElem?_eq_some_iff.1 h).1
      have i1:=ih (k+1)
      by_cases h4:a.kind=4
      · rw [ofF_one _ h h4];simp only;omega
      by_cases h5:a.kind=5
      · rw [ofF_two _ h h5]
        have i2:=ih (ofF l m (k+1)).2
        simp only;omega
      · rw [ofF_leaf _ h h4 h5];simp only;omega
theorem Sp.made {l:List It} {k m:Nat} {e:Ex} (h:Sp l k e m):∀ most,e.depth<=most->ofF l most k=(treeOf e,m):=by
  have pos:∀ {d most:Nat},d+1<=most->∃ n,most=n+1:=fun {d most} h=>⟨most - 1,by omega⟩
  induction h with
  | num h hk =>
    intro most hd;obtain ⟨n,rfl⟩:=pos (d:=0) hd
    rw [ofF_leaf _ h (by omega) (by omega),<- treeOf_leafE (by simp [leafOk,hk]),leafE,if_pos hk]
  | reg h hk hi =>
    intro most hd;obtain ⟨n,rfl⟩:=pos (d:=0) hd
    rw [ofF_leaf _ h (by omega) (by omega),<- treeOf_leafE (by simp [leafOk,hk,hi]),leafE,if_neg (by omega),if_pos hk]
  | of h hk ht hi =>
    intro most hd;obtain ⟨n,rfl⟩:=pos (d:=0) hd
    rw [ofF_leaf _ h (by omega) (by omega),<- treeOf_leafE (by simp [leafOk,hk,ht,hi]),leafE,if_neg (by omega),if_neg (by omega),if_pos hk]
  | loc h hk h1 h2 h3 =>
    intro most hd;obtain ⟨n,rfl⟩:=pos (d:=0) hd
    rw [ofF_leaf _ h (by omega) (by omega),<- treeOf_leafE (by simp [leafOk,hk,h1,h2,h3]),leafE,if_neg (by omega),if_neg (by omega),if_neg (by omega)]
  | one h hk ho hs ih =>
    intro most hd;simp only [Ex.depth] at hd;obtain ⟨n,rfl⟩:=pos hd
    rw [ofF_one _ h hk,ih n (by omega)];rfl
  | two h hk ho1 ho2 hs1 hs2 ih1 ih2 =>
    intro most hd;simp only [Ex.depth] at hd;obtain ⟨n,rfl⟩:=pos hd
    rw [ofF_two _ h hk,ih1 n (by omega)]
    simp only
    rw [ih2 n (by omega)];rfl
def endF (l:List It):Nat->Nat->Option (Nat × Nat)
  | 0,_=>none
  | f+1,k=>match l[k]? with
    | none=>none
    | some a=>match partsF a with
      | none=>none
      | some 0=>some (k+1,1)
      | some 1=>(endF l f (k+1)).map fun p=>(p.1,p.2+1)
      | some _=>(endF l f (k+1)).bind fun p=>(endF l f p.1).map fun q=>(q.1,max p.2 q.2+1)
theorem endF_sp {l:List It}:∀ (f k m d:Nat),endF l f k=some (m,d)->∃ e,Sp l k e m/\e.depth=d:=by
  intro f
  induction f with
  | zero=>intro k m d h;cases h
  | succ f ih =>
    intro k m d h
    cases ha:l[k]? with
    | none=>simp [endF,ha] at h
    | some a =>
      simp only [endF,ha] at h
      by_cases h1:a.kind=4/\sides a.op=1
      · have hp:partsF a=some 1:=by unfold partsF;rw [if_pos h1]
        rw [hp] at h
        obtain ⟨⟨m',d'⟩,hq,hr⟩:=Option.map_eq_some_iff.1 h
        obtain ⟨rfl,rfl⟩:=Prod.mk.inj hr
        obtain ⟨e,hs,hd⟩:=ih _ _ _ hq
        exact ⟨.one a.op e,.one ha h1.1 (sides_one.1 h1.2) hs,by simp only [Ex.depth,hd]⟩
      by_cases h2:a.kind=5/\sides a.op=2
      · have hp:partsF a=some 2:=by unfold partsF;rw [if_neg h1,if_pos h2]
        rw [hp] at h
        obtain ⟨⟨m1,d1⟩,hq,hr⟩:=Option.bind_eq_some_iff.1 h
        obtain ⟨⟨m2,d2⟩,hq2,hr2⟩:=Option.map_eq_some_iff.1 hr
        obtain ⟨rfl,rfl⟩:=Prod.mk.inj hr2
        obtain ⟨e,hs,hd⟩:=ih _ _ _ hq
        obtain ⟨e',hs',hd'⟩:=ih _ _ _ hq2
        have ho:=sides_two.1 h2.2
        exact ⟨.two a.op e e',.two ha h2.1 ho.1 ho.2 hs hs',by simp only [Ex.depth,hd,hd']⟩
      by_cases h3:leafOk a=true
      · have hp:partsF a=some 0:=by unfold partsF;rw [if_neg h1,if_neg h2,if_pos h3]
        rw [hp] at h
        obtain ⟨rfl,rfl⟩:=Prod.mk.inj (Option.some.inj h)
        exact ⟨leafE a,Sp.leaf ha h3,leafE_depth a⟩
      · have hp:partsF a=none:=by unfold partsF;rw [if_neg h1,if_neg h2,if_neg h3]
        rw [hp] at h;cases h
theorem sp_endF {l:List It} {k m:Nat} {e:Ex} (h:Sp l k e m):∀ f,l.length<k+f->endF l f k=some (m,e.depth):=by
  have lt:∀ {k:Nat} {a:It},l[k]? = some a->k<l.length:=fun h=>(List.getElem?_eq_some_iff.1 h).1
  have pos:∀ {k:Nat} {a:It} {f:Nat},l[k]? = some a->l.length<k+f->∃ n,f=n+1:=fun {k a f} h h'=>⟨f - 1,by have:=lt h;omega⟩
  have lf:∀ {a:It},leafOk a=true->partsF a=some 0:=fun {a} h=>by
    have:=leafOk_kind h
    rw [partsF_leaf (by omega) (by omega),if_pos h]
  have leaf:∀ {k:Nat} {a:It} {f:Nat},l[k]? = some a->leafOk a=true->l.length<k+f->endF l f k=some (k+1,1):=fun {k a f} h h1 h2=>by
    obtain ⟨n,rfl⟩:=pos h h2
    simp only [endF,h,lf h1]
  induction h with
  | @num k a h hk=>intro f hf;exact leaf h (by simp [leafOk,hk]) hf
  | @reg k a h hk hi=>intro f hf;exact leaf h (by simp [leafOk,hk,hi]) hf
  | @of k a h hk ht hi=>intro f hf;exact leaf h (by simp [leafOk,hk,ht,hi]) hf
  | @loc k a h hk h1 h2 h3=>intro f hf;exact leaf h (by simp [leafOk,hk,h1,h2,h3]) hf
  | @one k a e m h hk ho hs ih =>
    intro f hf;obtain ⟨n,rfl⟩:=pos h hf
    have hp:partsF a=some 1:=by unfold partsF;rw [if_pos ⟨hk,sides_one.2 ho⟩]
    simp only [endF,h,hp]
    rw [ih n (by omega)];rfl
  | @two k a e f m j h hk ho1 ho2 hs1 hs2 ih1 ih2 =>
    intro f hf;obtain ⟨n,rfl⟩:=pos h hf
    have hp:partsF a=some 2:=by unfold partsF;rw [if_neg (by omega),if_pos ⟨hk,sides_two.2 ⟨ho1,ho2⟩⟩]
    have:=hs1.le
    simp only [endF,h,hp]
    rw [ih1 n (by omega)]
    simp only [Option.bind_some]
    rw [ih2 n (by omega)];rfl
theorem endF_le {l:List It} {f k m d:Nat} (h:endF l f k=some (m,d)):k<m/\m<=l.length/\d<=l.length:=by
  obtain ⟨e,hs,rfl⟩:=endF_sp _ _ _ _ h
  have hd:∀ {k m e},Sp l k e m->e.depth<=m - k:=by
    intro k m e hs
    induction hs with
    | one _ _ _ hs ih=>have:=hs.le;simp only [Ex.depth];omega
    | two _ _ _ _ hs1 hs2 ih1 ih2=>have:=hs1.le;have:=hs2.le;simp only [Ex.depth];omega
    | _=>simp [Ex.depth]
  have:=hs.le;have:=hd hs
  omega
theorem Sp.ok {l:List It} (hl:∀ a ∈ l,a.bd) {k m:Nat} {e:Ex} (h:Sp l k e m):e.ok:=by
  induction h with
  | num h _=>exact (hl _ (List.mem_of_getElem? h)).2.2.1
  | reg _ _ hi=>exact hi
  | of _ _ ht hi=>exact ⟨ht,hi⟩
  | loc _ _ h1 h2 h3=>exact ⟨h1,h2,h3⟩
  | one _ _ ho _ ih=>exact ⟨ho,ih⟩
  | two _ _ h1 h2 _ _ iha ihb=>exact ⟨h1,h2,iha,ihb⟩
def sign (op:Nat):List UInt8 :=
  [[],[61,61],[33,61],[60],[60,61],[43],[45],[124],[94],[42],[47],[37],[38],[33],[45]].getD op []
def strongOp (op:Nat):Nat:=if 1<=op/\op<=4 then 1 else if 5<=op/\op<=8 then 2 else if 9<=op/\op<=12 then 3 else if op=13 \/ op=14 then 4 else 0
def Ex.strong:Ex->Nat
  | .one op _=>strongOp op
  | .two op _ _=>strongOp op
  | _=>5
def dec (n:Nat):List UInt8:=Lib.decDigits n
def Ex.isLeaf:Ex->Bool
  | .one _ _=>false
  | .two _ _ _=>false
  | _=>true
end Go.Proofs.YtbkdappgmcebaaaGreatDoor.Expr
end
section
namespace Go.Proofs.YtbkdappgmcebaaaGreatDoor.Expr
def isDig (c:UInt8):Bool:=decide (48<=c.toNat) && decide (c.toNat<=57)
def spell (l:List UInt8):Nat:=l.foldl (fun n c=>10 * n+(c.toNat - 48)) 0
theorem dec_spell (n:Nat):(∀ c ∈ dec n,isDig c=true)/\spell (dec n)=n/\dec n ≠ []:=by
  induction n using Nat.strongRecOn with
  | ind n ih =>
    have one:∀ d,d<10->isDig (UInt8.ofNat (48+d))=true/\(UInt8.ofNat (48+d)).toNat - 48=d:=fun d hd=>by
      have e:(UInt8.ofNat (48+d)).toNat=48+d:=by rw [UInt8.toNat_ofNat'];omega
      refine ⟨?_,by rw [e];omega⟩
      unfold isDig;rw [e];simp;omega
    unfold dec
    rw [Lib.decDigits.eq_def]
    by_cases h:n<10
    · rw [dif_pos h]
      refine ⟨fun c hc=>?_,?_,by simp⟩
      · rw [List.mem_singleton] at hc;rw [hc];exact (one n h).1
      · show 10 * 0+((UInt8.ofNat (48+n)).toNat - 48)=n
        rw [(one n h).2];omega
    · rw [dif_neg h]
      obtain ⟨i1,i2,i3⟩:=ih (n / 10) (by omega)
      unfold dec at i1 i2 i3
      refine ⟨fun c hc=>?_,?_,by simp⟩
      · rcases List.mem_append.1 hc with hc | hc
        · exact i1 c hc
        · rw [List.mem_singleton] at hc;rw [hc];exact (one (n % 10) (by omega)).1
      · unfold spell at i2 ⊢
        rw [List.foldl_append,i2]
        show 10 * (n / 10)+((UInt8.ofNat (48+n % 10)).toNat - 48)=n
        rw [(one (n % 10) (by omega)).2];omega
def digits (l:List UInt8):List UInt8:=l.takeWhile isDig
theorem strong_pos {op:Nat} (h1:1<=op) (h2:op<=12):1<=strongOp op/\strongOp op<=3:=by
  unfold strongOp
  by_cases a:1<=op/\op<=4
  · rw [if_pos a];omega
  · rw [if_neg a]
    by_cases b:5<=op/\op<=8
    · rw [if_pos b];omega
    · rw [if_neg b,if_pos (by omega)];omega
theorem dec_cons (n:Nat):∃ c d,dec n=c :: d/\isDig c=true:=by
  obtain ⟨d1,d2,d3⟩:=dec_spell n
  cases hd:dec n with
  | nil=>exact absurd hd d3
  | cons c d=>exact ⟨c,d,rfl,d1 c (by rw [hd];exact List.mem_cons_self)⟩
theorem one_strong {op:Nat} (h:op=13 \/ op=14):strongOp op=4:=by rcases h with rfl | rfl <;> rfl
end Go.Proofs.YtbkdappgmcebaaaGreatDoor.Expr
end
section
namespace Go.Proofs.YtbkdappgmcebaaaGreatDoor.Expr
open Go.RowKit Go.Proofs.YtbkdappgmcebaaaGreatDoor.Mem Go.Lib
def str (l:List UInt8):ByteArray:=⟨l.toArray⟩
def PowAt (_:World):Prop:=True
theorem PowAt.below {w w':World} (_:PowAt w) (_:Below w.heap.size w w'):PowAt w':=trivial
def Tabs (w:World):Prop:=Num.TextsAt w/\PowAt w
theorem Tabs.below {w w':World} (h:Tabs w) (hb:Below w.heap.size w w'):Tabs w':=⟨h.1.below hb,h.2.below hb⟩
def exprCells (a:It) (lv rv:Value):Array Value:=#[.int .u8 a.kind,.int .u8 a.op,.int .u64 a.n,.int .u8 a.t,.int .u8 a.i,.int .u8 a.x,lv,rv]
def leafIt:Ex->It
  | .num n=>⟨0,0,n,0,0,0⟩
  | .reg i=>⟨1,0,0,0,i,0⟩
  | .of t i=>⟨2,0,0,t,i,0⟩
  | .loc x=>⟨3,0,0,0,0,x⟩
  | .one op _=>⟨4,op,0,0,0,0⟩
  | .two op _ _=>⟨5,op,0,0,0,0⟩
def leafVal (e:Ex):Value:=.agg (exprCells (leafIt e) (.pointer none) (.pointer none))
theorem strength_any (op:Nat) (w:World) :
    Calls Tryz.prog 137 #[.int .u8 op] w fun e w'=>e = .returned (.int .i64 (strongOp op))/\w=w':=by
  by_cases h1:1<=op/\op<=4
  · have a1:(1:Int)<=(op:Int):=by omega
    have a2:(op:Int)<=4:=by omega
    have e:strongOp op=1:=by unfold strongOp;rw [if_pos h1]
    rw [e];clear e
    go_enter Tryz.func137,Tryz.ntmps137
    go_wp2
    go_ret
    exact ⟨rfl,rfl⟩
  by_cases h2:5<=op/\op<=8
  · have a1:(5:Int)<=(op:Int):=by omega
    have a2:(op:Int)<=8:=by omega
    have e:strongOp op=2:=by unfold strongOp;rw [if_neg h1,if_pos h2]
    rw [e];clear e
    go_enter Tryz.func137,Tryz.ntmps137
    go_wp2
    go_ret
    exact ⟨rfl,rfl⟩
  by_cases h3:9<=op/\op<=12
  · have a1:(9:Int)<=(op:Int):=by omega
    have a2:(op:Int)<=12:=by omega
    have e:strongOp op=3:=by unfold strongOp;rw [if_neg h1,if_neg h2,if_pos h3]
    rw [e];clear e
    go_enter Tryz.func137,Tryz.ntmps137
    go_wp2
    go_ret
    exact ⟨rfl,rfl⟩
  by_cases h13:op=13
  · subst h13
    go_enter Tryz.func137,Tryz.ntmps137
    go_wp2
    go_ret
    exact ⟨rfl,rfl⟩
  by_cases h14:op=14
  · subst h14
    go_enter Tryz.func137,Tryz.ntmps137
    go_wp2
    go_ret
    exact ⟨rfl,rfl⟩
  have e:strongOp op=0:=by unfold strongOp;rw [if_neg h1,if_neg h2,if_neg h3,if_neg (by omega)]
  rw [e];clear e
  have e1:((op:Int) == 13)=false:=beq_eq_false_iff_ne.2 (by omega)
  have e2:((op:Int) == 14)=false:=beq_eq_false_iff_ne.2 (by omega)
  by_cases hz:op=0
  · subst hz
    go_enter Tryz.func137,Tryz.ntmps137
    go_wp2
    go_ret
    exact ⟨rfl,rfl⟩
  · have a1:(14:Int)<(op:Int):=by omega
    go_enter Tryz.func137,Tryz.ntmps137
    go_wp2
    go_ret
    exact ⟨rfl,rfl⟩
def itVal (a:It):Value:=.agg #[.int .u8 a.kind,.int .u8 a.op,.int .u64 a.n,.int .u8 a.t,.int .u8 a.i,.int .u8 a.x]
theorem leaf_any (a:It) (w:World):Calls Tryz.prog 187 #[itVal a] w fun e' w'=>Made (.returned (.bool (leafOk a))) w e' w':=by
  obtain ⟨k,op,n,t,i,x⟩:=a
  show Calls _ _ #[.agg #[.int .u8 k,.int .u8 op,.int .u64 n,.int .u8 t,.int .u8 i,.int .u8 x]] _ _
  by_cases h0:k=0
  · subst h0
    go_enter Tryz.func187,Tryz.ntmps187
    go_wp2
    go_ret
    exact ⟨rfl,(Below.refl _ _).alloc (Nat.le_refl _) _⟩
  by_cases h1:k=1
  · subst h1
    go_enter Tryz.func187,Tryz.ntmps187
    go_wp2
    go_ret
    exact ⟨ret_bool (by simp [leafOk];omega),(Below.refl _ _).alloc (Nat.le_refl _) _⟩
  by_cases h2:k=2
  · subst h2
    by_cases ht:t<4
    · have e:leafOk ⟨2,op,n,t,i,x⟩=decide ((i:Int)<8):=by simp [leafOk,ht];omega
      rw [e];clear e
      have i1:(t:Int)<4:=by omega
      go_enter Tryz.func187,Tryz.ntmps187
      go_wp2
      go_ret
      exact ⟨rfl,(Below.refl _ _).alloc (Nat.le_refl _) _⟩
    · have e:leafOk ⟨2,op,n,t,i,x⟩=false:=by simp [leafOk,ht]
      rw [e];clear e
      have i1:(4:Int)<=t:=by omega
      go_enter Tryz.func187,Tryz.ntmps187
      go_wp2
      go_ret
      exact ⟨rfl,(Below.refl _ _).alloc (Nat.le_refl _) _⟩
  by_cases h3:k=3
  · subst h3
    by_cases ha:97<=x
    · have i1:(97:Int)<=x:=by omega
      by_cases hb:x<=122
      · have e:leafOk ⟨3,op,n,t,i,x⟩=((x:Int) != 114):=by
          by_cases hx:x=114
          · subst hx;rfl
          · have h:((x:Int) != 114)=true:=by rw [bne_iff_ne];omega
            rw [h];simp [leafOk,ha,hb,hx]
        rw [e];clear e
        have i2:(x:Int)<=122:=by omega
        go_enter Tryz.func187,Tryz.ntmps187
        go_wp2
        go_ret
        exact ⟨rfl,(Below.refl _ _).alloc (Nat.le_refl _) _⟩
      · have e:leafOk ⟨3,op,n,t,i,x⟩=false:=by simp [leafOk,hb]
        rw [e];clear e
        have i2:(122:Int)<x:=by omega
        go_enter Tryz.func187,Tryz.ntmps187
        go_wp2
        go_ret
        exact ⟨rfl,(Below.refl _ _).alloc (Nat.le_refl _) _⟩
    · have e:leafOk ⟨3,op,n,t,i,x⟩=false:=by simp [leafOk,ha]
      rw [e];clear e
      have i2:(x:Int)<97:=by omega
      go_enter Tryz.func187,Tryz.ntmps187
      go_wp2
      go_ret
      exact ⟨rfl,(Below.refl _ _).alloc (Nat.le_refl _) _⟩
  have e:leafOk ⟨k,op,n,t,i,x⟩=false:=by simp [leafOk,h0,h1,h2,h3]
  rw [e];clear e
  have e0:((k:Int) == 0)=false:=beq_eq_false_iff_ne.2 (by omega)
  have e1:((k:Int) == 1)=false:=beq_eq_false_iff_ne.2 (by omega)
  have e2:((k:Int) == 2)=false:=beq_eq_false_iff_ne.2 (by omega)
  have e3:((k:Int) == 3)=false:=beq_eq_false_iff_ne.2 (by omega)
  clear h0 h1 h2 h3
  go_enter Tryz.func187,Tryz.ntmps187
  go_wp2
  go_ret
  exact ⟨rfl,(Below.refl _ _).alloc (Nat.le_refl _) _⟩
theorem sidesF_nat (op:Nat):Num.sidesF (op:Int)=(sides op:Nat):=by
  unfold Num.sidesF sides
  by_cases h:1<=op/\op<=12
  · rw [if_pos h,if_pos (by omega)];rfl
  · rw [if_neg h,if_neg (by omega)]
    by_cases h2:op=13 \/ op=14
    · rw [if_pos h2,if_pos (by omega)];rfl
    · rw [if_neg h2,if_neg (by omega)];rfl
theorem sides_nat (op:Nat) (w:World):Calls Tryz.prog 171 #[.int .u8 op] w fun e w'=>e = .returned (.int .i64 (sides op:Nat))/\w=w':=by
  rw [<- sidesF_nat];exact Num.sides_any op w
theorem rsides_nat (op:Nat) (w:World):Calls Tryz.prog 186 #[.int .u8 op] w fun e w'=>e = .returned (.int .i64 (sides op:Nat))/\w=w':=by
  rw [<- sidesF_nat];exact Num.rsides_any op w
def partsI (a:It):Int:=match partsF a with
  | some n=>n
  | none => -1
theorem partsI_leaf {a:It} (h:partsF a=if leafOk a then some 0 else none):partsI a=if leafOk a then 0 else -1:=by
  unfold partsI;rw [h];split <;> split <;> simp_all
theorem parts_any (a:It) (w:World):Calls Tryz.prog 144 #[itVal a] w fun e' w'=>Made (.returned (.int .i64 (partsI a))) w e' w':=by
  by_cases h1:a.kind=4/\sides a.op=1
  · have e:partsI a=1:=by unfold partsI partsF;rw [if_pos h1];rfl
    rw [e];clear e
    obtain ⟨k,op,n,t,i,x⟩:=a
    obtain ⟨rfl,hs⟩:=h1
    have HS:=Lib.hid hs;clear hs
    show Calls _ _ #[.agg #[.int .u8 4,.int .u8 op,.int .u64 n,.int .u8 t,.int .u8 i,.int .u8 x]] _ _
    go_enter Tryz.func144,Tryz.ntmps144
    go_wp2_with (go_at_call 186;refine (rsides_nat _ _).mono ?_;rw [HS.out];rintro e w' ⟨rfl,rfl⟩)
    go_ret
    exact ⟨rfl,(Below.refl _ _).alloc (Nat.le_refl _) _⟩
  by_cases h2:a.kind=5/\sides a.op=2
  · have e:partsI a=2:=by unfold partsI partsF;rw [if_neg h1,if_pos h2];rfl
    rw [e];clear e h1
    obtain ⟨k,op,n,t,i,x⟩:=a
    obtain ⟨rfl,hs⟩:=h2
    have HS:=Lib.hid hs;clear hs
    show Calls _ _ #[.agg #[.int .u8 5,.int .u8 op,.int .u64 n,.int .u8 t,.int .u8 i,.int .u8 x]] _ _
    go_enter Tryz.func144,Tryz.ntmps144
    go_wp2_with (go_at_call 186;refine (rsides_nat _ _).mono ?_;rw [HS.out];rintro e w' ⟨rfl,rfl⟩)
    go_ret
    exact ⟨rfl,(Below.refl _ _).alloc (Nat.le_refl _) _⟩
  have HP:=Lib.hid (partsI_leaf (a:=a) (by unfold partsF;rw [if_neg h1,if_neg h2]))
  have HLL:=Lib.hid (fun W=>leaf_any a W)
  generalize partsI a=q at HP ⊢
  generalize leafOk a=b at HP HLL
  obtain ⟨k,op,n,t,i,x⟩:=a
  simp only at h1 h2
  have hend:∀ w1:World,Below (w.alloc (.cells #[.int .u8 k,.int .u8 op,.int .u64 n,.int .u8 t,.int .u8 i,.int .u8 x] 114)).heap.size (w.alloc (.cells #[.int .u8 k,.int .u8 op,.int .u64 n,.int .u8 t,.int .u8 i,.int .u8 x] 114)) w1->Below w.heap.size w w1:=fun w1 h=>Below.boxed _ _ h
  have HE:=Lib.hid hend;clear hend
  show Calls _ _ #[.agg #[.int .u8 k,.int .u8 op,.int .u64 n,.int .u8 t,.int .u8 i,.int .u8 x]] _ _
  by_cases h4:k=4
  · subst h4
    have hs:(((sides op:Nat):Int) == 1)=false:=beq_eq_false_iff_ne.2 (by have:=fun h=>h1 ⟨rfl,h⟩;omega)
    clear h1 h2
    cases b
    all_goals
      go_enter Tryz.func144,Tryz.ntmps144
      go_wp2_with (first | (go_at_call 186;refine (rsides_nat _ _).mono ?_;rintro e w' ⟨rfl,rfl⟩) | (go_at_call 187;refine (HLL.out _).mono ?_;rintro e w1 ⟨rfl,hb⟩;have HB:=Lib.hid hb;clear hb))
      go_ret
      exact ⟨ret_int (by rw [HP.out];rfl),HE.out _ HB.out⟩
  by_cases h5:k=5
  · subst h5
    have hs:(((sides op:Nat):Int) == 2)=false:=beq_eq_false_iff_ne.2 (by have:=fun h=>h2 ⟨rfl,h⟩;omega)
    clear h1 h2
    cases b
    all_goals
      go_enter Tryz.func144,Tryz.ntmps144
      go_wp2_with (first | (go_at_call 186;refine (rsides_nat _ _).mono ?_;rintro e w' ⟨rfl,rfl⟩) | (go_at_call 187;refine (HLL.out _).mono ?_;rintro e w1 ⟨rfl,hb⟩;have HB:=Lib.hid hb;clear hb))
      go_ret
      exact ⟨ret_int (by rw [HP.out];rfl),HE.out _ HB.out⟩
  have e4:((k:Int) == 4)=false:=beq_eq_false_iff_ne.2 (by omega)
  have e5:((k:Int) == 5)=false:=beq_eq_false_iff_ne.2 (by omega)
  clear h1 h2 h4 h5
  cases b
  all_goals
    go_enter Tryz.func144,Tryz.ntmps144
    go_wp2_with (go_at_call 187;refine (HLL.out _).mono ?_;rintro e w1 ⟨rfl,hb⟩;have HB:=Lib.hid hb;clear hb)
    go_ret
    exact ⟨ret_int (by rw [HP.out];rfl),HE.out _ HB.out⟩
end Go.Proofs.YtbkdappgmcebaaaGreatDoor.Expr
end
