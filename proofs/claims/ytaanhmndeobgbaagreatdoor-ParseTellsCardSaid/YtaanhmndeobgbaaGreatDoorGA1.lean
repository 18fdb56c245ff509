/- Part 2 of the proof: what is used of the texts LexS, LexA, LexB, LexK. -/
import Derived.KernelRfl
import Derived.Test.YtaanhmndeobgbaaGreatDoorRows
import Derived.WalkKit
import Derived.WalkLawsBesides
import Derived.WalkMore
import Derived.Scope
import Derived.ScopeJumps
import Derived.Outline
import Derived.Lib.Hide
import Derived.Lib.Bytealg
import Derived.LoopTactic
import Derived.Below
import Derived.BigRegion
import Derived.RegionTactic
import Derived.StillTailTactics
set_option maxRecDepth 100000
set_option maxHeartbeats 1000000
namespace Go.Proofs.YtaanhmndeobgbaaGreatDoor.Lex
def iO (c:UInt8):Bool:=decide (48<=c.toNat) && decide (c.toNat<=57)
def jA (c:UInt8):Bool:=decide (97<=c.toNat) && decide (c.toNat<=122)
def cO (c:UInt8):Bool:=jA c || iO c
def signs:List UInt8:=[61,33,60,43,45,124,94,42,47,37,38,40,41,123,125,44,59,58]
def Cs (c:UInt8):Bool:=decide (c ∈ signs)
def yE (c:UInt8):Bool:=c == 32 || c == 9 || c == 10
def LM (c:UInt8):Bool:=c != 10
def grows (c:UInt8):Bool:=c == 61 || c == 33 || c == 60
structure Tok where
 kind:Nat
 text:List UInt8
 num:Nat
 line:Nat
 xy:Nat
deriving DecidableEq
inductive vU where
 | ok (ts:List Tok)
 | err (e line xy:Nat)
deriving DecidableEq
def vU.more (acc:List Tok):vU->vU
 | .ok ts => .ok (acc ++ ts)
 | r=>r
inductive Step where
 | fin
 | skip (n:Nat)
 | piece (kind n v:Nat)
 | bad (e:Nat)
deriving DecidableEq
def num (l:List UInt8):Nat:=l.foldl (fun n c=>10 * n+(c.toNat - 48)) 0
def top:Nat:=18446744073709551616
def step1 (p:Nat × Nat) (c:UInt8):Nat × Nat:=if c == 10 then (p.1+1,1) else (p.1,p.2+1)
def Gj (p:Nat × Nat) (l:List UInt8):Nat × Nat:=l.foldl step1 p
def one:List UInt8->Step
 | [] => .fin
 | c :: r =>
  if yE c then .skip 1
  else if c == 35 then .skip ((c :: r).takeWhile LM).length
  else if iO c then
   if num ((c :: r).takeWhile iO)<top then .piece 1 ((c :: r).takeWhile iO).length (num ((c :: r).takeWhile iO)) else .bad 4
  else if jA c then .piece 2 ((c :: r).takeWhile cO).length 0
  else if Cs c then
   if grows c && r.head? == some 61 then .piece 3 2 0 else .piece 3 1 0
  else .bad 3
def o9:Nat->List UInt8->Nat × Nat->vU
 | 0,_,p => .ok [⟨0,[],0,p.1,p.2⟩]
 | f+1,l,p =>
  match one l with
  | .fin => .ok [⟨0,[],0,p.1,p.2⟩]
  | .skip n=>o9 f (l.drop n) (Gj p (l.take n))
  | .piece k n v=>(o9 f (l.drop n) (Gj p (l.take n))).more [⟨k,l.take n,v,p.1,p.2⟩]
  | .bad e => .err e p.1 p.2
def lex (l:List UInt8) (p:Nat × Nat):vU:=o9 (l.length+1) l p
def fq (l:List UInt8):vU:=if l.length<=4096 then lex l (1,1) else .err 4 1 1
def Step.len:Step->Nat
 | .skip n=>n
 | .piece _ n _=>n
 | _=>1
theorem nW {q:UInt8->Bool} {c:UInt8} {r:List UInt8} (h:q c=true):0<((c :: r).takeWhile q).length:=by
 simp [h]
theorem lC (c:UInt8) (r:List UInt8):0<(one (c :: r)).len/\(one (c :: r)).len<=(c :: r).length:=by
 have tw:∀ q:UInt8->Bool,((c :: r).takeWhile q).length<=(c :: r).length:=fun q=>(List.takeWhile_prefix q).length_le
 unfold one;by_cases h1:yE c=true
 ·simp [h1,Step.len]
 by_cases h2:(c == 35)=true
 ·have:LM c=true:=by
   have:c=35:=by simpa using h2
   subst this;rfl
  simp only [h1,h2,Step.len,if_true,Bool.false_eq_true,if_false]
  exact ⟨nW this,tw _⟩
 by_cases h3:iO c=true
 ·by_cases h4:num ((c :: r).takeWhile iO)<top
  ·simp only [h1,h2,h3,h4,Step.len,if_true,Bool.false_eq_true,if_false]
   exact ⟨nW h3,tw _⟩
  ·simp only [h1,h2,h3,h4,Step.len,if_true,Bool.false_eq_true,if_false]
   simp
 by_cases h5:jA c=true
 ·simp only [h1,h2,h3,h5,Step.len,if_true,Bool.false_eq_true,if_false]
  exact ⟨nW (by simp [cO,h5]),tw _⟩
 by_cases h6:Cs c=true
 ·by_cases h7:(grows c && r.head? == some 61)=true
  ·simp only [h1,h2,h3,h5,h6,h7,Step.len,if_true,Bool.false_eq_true,if_false]
   cases r with
   | nil=>simp at h7
   | cons d r=>simp
  ·simp [h1,h2,h3,h5,h6,h7,Step.len]
 ·simp [h1,h2,h3,h5,h6,Step.len]
theorem Be:∀ (f g:Nat) (l:List UInt8) (p:Nat × Nat),l.length<f->l.length<g->o9 f l p=o9 g l p:=by
 intro f;induction f with
 | zero=>intro g l p h;omega
 | succ f ih =>
  intro g l p hf hg;obtain ⟨g,rfl⟩:∃ k,g=k+1:=⟨g - 1,by omega⟩
  cases l with
  | nil=>simp [o9,one]
  | cons c r =>
   have hl:=lC c r;simp only [o9]
   cases ho:one (c :: r) with
   | fin=>rfl
   | bad e=>rfl
   | skip n =>
    rw [ho] at hl;simp only [Step.len] at hl;exact ih g _ _ (by simp only [List.length_drop];omega) (by simp only [List.length_drop];omega)
   | piece k n v =>
    rw [ho] at hl;simp only [Step.len] at hl;show vU.more _ _=vU.more _ _
    rw [ih g _ _ (by simp only [List.length_drop];omega) (by simp only [List.length_drop];omega)]
theorem IW (p:Nat × Nat):lex [] p = .ok [⟨0,[],0,p.1,p.2⟩]:=rfl
theorem Me {l:List UInt8} {p:Nat × Nat} {n:Nat} (h:one l = .skip n):lex l p=lex (l.drop n) (Gj p (l.take n)):=by
 cases l with
 | nil=>simp [one] at h
 | cons c r =>
  have hl:=lC c r;rw [h] at hl;simp only [Step.len] at hl;unfold lex;rw [o9,h];exact Be _ _ _ _ (by simp only [List.length_drop];omega) (by omega)
theorem JR {l:List UInt8} {p:Nat × Nat} {k n v:Nat} (h:one l = .piece k n v) :
  lex l p=(lex (l.drop n) (Gj p (l.take n))).more [⟨k,l.take n,v,p.1,p.2⟩]:=by
 cases l with
 | nil=>simp [one] at h
 | cons c r =>
  have hl:=lC c r;rw [h] at hl;simp only [Step.len] at hl;unfold lex;rw [o9,h];show vU.more _ _=vU.more _ _
  rw [Be _ _ _ _ (by simp only [List.length_drop];omega) (Nat.lt_succ_self _)]
theorem yl {l:List UInt8} {p:Nat × Nat} {e:Nat} (h:one l = .bad e):lex l p = .err e p.1 p.2:=by
 unfold lex;rw [o9,h]
theorem oC (a b:List Tok) (r:vU):(r.more b).more a=r.more (a ++ b):=by
 cases r <;> simp [vU.more]
theorem El (r:vU):r.more []=r:=by cases r <;> simp [vU.more]
def pl (l:List UInt8) (k:Nat):Nat × Nat:=Gj (1,1) (l.take k)
theorem yF (p:Nat × Nat) (a b:List UInt8):Gj p (a ++ b)=Gj (Gj p a) b:=by simp [Gj]
theorem Ct (l:List UInt8) (k:Nat) (h:k<l.length):pl l (k+1)=step1 (pl l k) (l.getD k 0):=by
 have e:l.getD k 0=l[k]:=by simp [List.getD,h]
 unfold pl;rw [List.take_succ_eq_append_getElem h,yF,e];rfl
theorem Mf (l:List UInt8) (k n:Nat):Gj (pl l k) ((l.drop k).take n)=pl l (k+n):=by
 unfold pl;rw [<- yF,List.take_add]
theorem Vv (l:List UInt8) (k:Nat):1<=(pl l k).1/\(pl l k).1<=k+1/\1<=(pl l k).2/\(pl l k).2<=k+1:=by
 induction k with
 | zero=>simp [pl,Gj]
 | succ k ih =>
  by_cases h:k<l.length
  ·rw [Ct l k h]
   unfold step1
   split <;> simp <;> omega
  ·have:pl l (k+1)=pl l k:=by
    unfold pl;rw [List.take_of_length_le (by omega),List.take_of_length_le (by omega)]
   rw [this];omega
theorem yG {q:UInt8->Bool} {l:List UInt8} {k j:Nat} (hk:k<=j) (hj:j<=l.length) (hin:∀ i,k<=i->i<j->q (l.getD i 0)=true)
  (hout:j<l.length->q (l.getD j 0)=false):(l.drop k).takeWhile q=(l.drop k).take (j - k):=by
 obtain ⟨n,rfl⟩:∃ n,j=k+n:=⟨j - k,by omega⟩
 clear hk;rw [Nat.add_sub_cancel_left];induction n generalizing k with
 | zero =>
  by_cases h:k<l.length
  ·have h0:=hout (by omega)
   have e:l.getD (k+0) 0=l[k]:=by simp [List.getD,h]
   rw [e] at h0;rw [List.drop_eq_getElem_cons h,List.takeWhile_cons,h0];simp
  ·rw [List.drop_of_length_le (by omega)];simp
 | succ n ih =>
  have h:k<l.length:=by omega
  have e:l.getD k 0=l[k]:=by simp [List.getD,h]
  rw [List.drop_eq_getElem_cons h,List.takeWhile_cons,<- e,hin k (Nat.le_refl _) (by omega),List.take_succ_cons];simp only [if_true]
  rw [ih (k:=k+1) (by omega) (fun i h1 h2=>hin i (by omega) (by omega)) (fun h=>by have:=hout (by omega);rw [Nat.add_assoc,Nat.add_comm 1 n];exact this)]
theorem drop_cons (l:List UInt8) (k:Nat) (h:k<l.length):l.drop k=l.getD k 0 :: l.drop (k+1):=by
 rw [List.drop_eq_getElem_cons h];simp [List.getD,h]
theorem JS (l:List UInt8) (k j:Nat) (hk:k<=j) (h:j<l.length):(l.drop k).take (j+1 - k)=(l.drop k).take (j - k) ++ [l.getD j 0]:=by
 have e:j+1 - k=(j - k)+1:=by omega
 rw [e,List.take_succ_eq_append_getElem (by simp;omega)]
 congr 1
 have:k+(j - k)=j:=by omega
 simp [List.getD,h,this]
theorem Em (l:List UInt8) (c:UInt8):num (l ++ [c])=10 * num l+(c.toNat - 48):=by simp [num]
theorem sW (a b:List UInt8):num a<=num (a ++ b):=by
 induction b generalizing a with
 | nil=>simp
 | cons c r ih =>
  have h:=ih (a ++ [c]);rw [Em] at h;rw [List.append_assoc] at h;simp at h
  omega
theorem nz {l:List UInt8} {k n:Nat} (h:one (l.drop k) = .skip n):lex (l.drop k) (pl l k)=lex (l.drop (k+n)) (pl l (k+n)):=by
 rw [Me h,Mf,List.drop_drop]
theorem jL {l:List UInt8} {k d n v:Nat} (h:one (l.drop k) = .piece d n v) :
  lex (l.drop k) (pl l k)=(lex (l.drop (k+n)) (pl l (k+n))).more [⟨d,(l.drop k).take n,v,(pl l k).1,(pl l k).2⟩]:=by
 rw [JR h,Mf,List.drop_drop]
def Scan (q:UInt8->Bool) (l:List UInt8) (k j:Nat):Prop:=∀ i,k<=i->i<j->q (l.getD i 0)=true
def Stops (q:UInt8->Bool) (l:List UInt8) (j:Nat):Prop:=j<l.length->q (l.getD j 0)=false
theorem Scan.none (q:UInt8->Bool) (l:List UInt8) (k:Nat):Scan q l k k:=fun i h1 h2=>absurd h2 (by omega)
theorem Scan.next {q:UInt8->Bool} {l:List UInt8} {k j:Nat} (h:Scan q l k j) (hq:q (l.getD j 0)=true):Scan q l k (j+1):=by
 intro i h1 h2;by_cases e:i=j
 ·subst e;exact hq
 ·exact h i h1 (by omega)
theorem Cv {q:UInt8->Bool} {l:List UInt8} {k j:Nat} (hk:k<=j) (hj:j<=l.length) (h:Scan q l k j) (hs:Stops q l j):(l.drop k).takeWhile q=(l.drop k).take (j - k) :=
 yG hk hj h hs
theorem Gm {q:UInt8->Bool} {l:List UInt8} {k j:Nat} (hk:k<=j) (hj:j<=l.length) (h:Scan q l k j):(l.drop k).takeWhile q=(l.drop k).take (j - k) ++ (l.drop j).takeWhile q:=by
 obtain ⟨n,rfl⟩:∃ n,j=k+n:=⟨j - k,by omega⟩
 clear hk;rw [Nat.add_sub_cancel_left];induction n generalizing k with
 | zero=>simp
 | succ n ih =>
  have hl:k<l.length:=by omega
  rw [drop_cons l k hl,List.takeWhile_cons,h k (Nat.le_refl _) (by omega),List.take_succ_cons];have e:k+(n+1)=k+1+n:=by omega
  have:=ih (k:=k+1) (by omega) (fun i h1 h2=>h i (by omega) (by omega));simp only [if_true,List.cons_append,e,this]
section
variable {l : List UInt8} {k j : Nat}
theorem Bf (hk:k<l.length) (h:yE (l.getD k 0)=true):one (l.drop k) = .skip 1:=by
 rw [drop_cons l k hk];simp only [one,h,if_true]
theorem yH (hk:k<l.length) (hb:yE (l.getD k 0)=false) (h:(l.getD k 0 == 35)=true) (hkj:k<=j) (hj:j<=l.length) (hs:Scan LM l k j) (ht:Stops LM l j):one (l.drop k) = .skip (j - k):=by
 have e:=Cv hkj hj hs ht;rw [drop_cons l k hk] at e ⊢;simp only [one,hb,h,e,Bool.false_eq_true,if_false,if_true,List.length_take]
 congr 1
 simp only [List.length_cons,List.length_drop];omega
theorem yI (hk:k<l.length) (hb:yE (l.getD k 0)=false) (PS:(l.getD k 0 == 35)=false) (h:iO (l.getD k 0)=true) (hkj:k<=j) (hj:j<=l.length) (hs:Scan iO l k j) (ht:Stops iO l j)
  (hn:num ((l.drop k).take (j - k))<top):one (l.drop k) = .piece 1 (j - k) (num ((l.drop k).take (j - k))):=by
 have e:=Cv hkj hj hs ht;have hl:((l.drop k).take (j - k)).length=j - k:=by simp only [List.length_take,List.length_drop];omega
 rw [drop_cons l k hk] at e hl hn ⊢;simp only [one,hb,PS,h,e,hn,hl,Bool.false_eq_true,if_false,if_true]
theorem qK (hk:k<l.length) (hb:yE (l.getD k 0)=false) (PS:(l.getD k 0 == 35)=false) (h:iO (l.getD k 0)=true) (hkj:k<=j) (hj:j<=l.length) (hs:Scan iO l k j)
  (hn:¬ num ((l.drop k).take (j - k))<top):one (l.drop k) = .bad 4:=by
 have e:=Gm hkj hj hs;have hn':¬ num ((l.drop k).takeWhile iO)<top:=by
  rw [e];have:=sW ((l.drop k).take (j - k)) ((l.drop j).takeWhile iO);omega
 rw [drop_cons l k hk] at hn' ⊢;simp only [one,hb,PS,h,hn',Bool.false_eq_true,if_false,if_true]
theorem En (hk:k<l.length) (hb:yE (l.getD k 0)=false) (PS:(l.getD k 0 == 35)=false) (hd:iO (l.getD k 0)=false) (h:jA (l.getD k 0)=true) (hkj:k<=j) (hj:j<=l.length) (hs:Scan cO l k j) (ht:Stops cO l j) :
  one (l.drop k) = .piece 2 (j - k) 0:=by
 have e:=Cv hkj hj hs ht;have hl:((l.drop k).take (j - k)).length=j - k:=by simp only [List.length_take,List.length_drop];omega
 rw [drop_cons l k hk] at e hl ⊢;simp only [one,hb,PS,hd,h,e,hl,Bool.false_eq_true,if_false,if_true]
theorem Eo {n:Nat} (hk:k<l.length) (h:one (l.drop k) = .skip n):0<n:=by
 rw [drop_cons l k hk] at h;have:=lC (l.getD k 0) (l.drop (k+1));rw [h] at this;exact this.1
theorem vX {d n v:Nat} (hk:k<l.length) (h:one (l.drop k) = .piece d n v):0<n:=by
 rw [drop_cons l k hk] at h;have:=lC (l.getD k 0) (l.drop (k+1));rw [h] at this;exact this.1
theorem JU (hk:k+1<l.length):(l.drop (k+1)).head? = some (l.getD (k+1) 0):=by rw [drop_cons l (k+1) hk];rfl
theorem Ep (hk:k<l.length) (hb:yE (l.getD k 0)=false) (PS:(l.getD k 0 == 35)=false) (hd:iO (l.getD k 0)=false) (hl:jA (l.getD k 0)=false) (h:Cs (l.getD k 0)=true) :
  one (l.drop k) = .piece 3 (if grows (l.getD k 0) && l.getD (k+1) 0 == 61 then 2 else 1) 0:=by
 have e:(grows (l.getD k 0) && (l.drop (k+1)).head? == some 61)=(grows (l.getD k 0) && l.getD (k+1) 0 == 61):=by
  by_cases hk1:k+1<l.length
  ·rw [JU hk1];rfl
  ·rw [List.drop_of_length_le (by omega)]
   have:l.getD (k+1) 0=0:=by rw [List.getD_eq_getElem?_getD,List.getElem?_eq_none (by omega)];rfl
   rw [this];rfl
 rw [drop_cons l k hk];simp only [one,hb,PS,hd,hl,h,e,Bool.false_eq_true,if_false,if_true]
 split <;> rfl
theorem Er (hk:k<l.length) (hb:yE (l.getD k 0)=false) (PS:(l.getD k 0 == 35)=false) (hd:iO (l.getD k 0)=false) (hl:jA (l.getD k 0)=false) (h:Cs (l.getD k 0)=false):one (l.drop k) = .bad 3:=by
 rw [drop_cons l k hk];simp only [one,hb,PS,hd,hl,h,Bool.false_eq_true,if_false]
end
end Go.Proofs.YtaanhmndeobgbaaGreatDoor.Lex
namespace Go.Proofs.YtaanhmndeobgbaaGreatDoor.Lex
open Go.RowKit
def Sits (w:World) (g:Nat) (t:TypeId) (cs:Array Value):Prop:=w.heap[g]? = some (.cells cs t (0,0))
structure aa (X:Nat->Prop) (w w':World):Prop where
 os:w'.os=w.os
 tape:w'.tape=w.tape
 output:w'.output=w.output
 size:w.heap.size<=w'.heap.size
 block:∀ b,b<w.heap.size->¬ X b->w'.heap[b]? = w.heap[b]?
section
variable {w w' w'' : World} {g : Nat} {t : TypeId} {cs : Array Value} {X Y : Nat → Prop}
theorem Sits.lt (h:Sits w g t cs):g<w.heap.size:=lt_of_block h
theorem Sits.cell (h:Sits w g t cs) (i:Nat):w.cell? ⟨g,i,none⟩=cs[i]?:=cell_of_row w g i cs t (0,0) h
theorem Sits.c0 {w:World} {g:Nat} {t:TypeId} {a0:Value} {l:List Value} (h:Sits w g t ⟨a0::l⟩):w.cell? ⟨g,0,none⟩=some a0:=(h.cell 0).trans (by simp)
theorem Sits.c1 {w:World} {g:Nat} {t:TypeId} {a0 a1:Value} {l:List Value} (h:Sits w g t ⟨a0::a1::l⟩):w.cell? ⟨g,1,none⟩=some a1:=(h.cell 1).trans (by simp)
theorem Sits.c2 {w:World} {g:Nat} {t:TypeId} {a0 a1 a2:Value} {l:List Value} (h:Sits w g t ⟨a0::a1::a2::l⟩):w.cell? ⟨g,2,none⟩=some a2:=(h.cell 2).trans (by simp)
theorem Sits.c3 {w:World} {g:Nat} {t:TypeId} {a0 a1 a2 a3:Value} {l:List Value} (h:Sits w g t ⟨a0::a1::a2::a3::l⟩):w.cell? ⟨g,3,none⟩=some a3:=(h.cell 3).trans (by simp)
theorem Sits.c4 {w:World} {g:Nat} {t:TypeId} {a0 a1 a2 a3 a4:Value} {l:List Value} (h:Sits w g t ⟨a0::a1::a2::a3::a4::l⟩):w.cell? ⟨g,4,none⟩=some a4:=(h.cell 4).trans (by simp)
theorem Sits.c5 {w:World} {g:Nat} {t:TypeId} {a0 a1 a2 a3 a4 a5:Value} {l:List Value} (h:Sits w g t ⟨a0::a1::a2::a3::a4::a5::l⟩):w.cell? ⟨g,5,none⟩=some a5:=(h.cell 5).trans (by simp)
theorem Sits.c6 {w:World} {g:Nat} {t:TypeId} {a0 a1 a2 a3 a4 a5 a6:Value} {l:List Value} (h:Sits w g t ⟨a0::a1::a2::a3::a4::a5::a6::l⟩):w.cell? ⟨g,6,none⟩=some a6:=(h.cell 6).trans (by simp)
theorem Sits.c7 {w:World} {g:Nat} {t:TypeId} {a0 a1 a2 a3 a4 a5 a6 a7:Value} {l:List Value} (h:Sits w g t ⟨a0::a1::a2::a3::a4::a5::a6::a7::l⟩):w.cell? ⟨g,7,none⟩=some a7:=(h.cell 7).trans (by simp)
theorem Sits.c8 {w:World} {g:Nat} {t:TypeId} {a0 a1 a2 a3 a4 a5 a6 a7 a8:Value} {l:List Value} (h:Sits w g t ⟨a0::a1::a2::a3::a4::a5::a6::a7::a8::l⟩):w.cell? ⟨g,8,none⟩=some a8:=(h.cell 8).trans (by simp)
theorem Sits.c9 {w:World} {g:Nat} {t:TypeId} {a0 a1 a2 a3 a4 a5 a6 a7 a8 a9:Value} {l:List Value} (h:Sits w g t ⟨a0::a1::a2::a3::a4::a5::a6::a7::a8::a9::l⟩):w.cell? ⟨g,9,none⟩=some a9:=(h.cell 9).trans (by simp)
theorem Sits.e2 {w:World} {g:Nat} {t:TypeId} {a0 a1:Value} {l:List Value} (h:Sits w g t ⟨a0::a1::l⟩):w.cell? ⟨g,0,none⟩=some a0/\w.cell? ⟨g,1,none⟩=some a1:=⟨h.c0,h.c1⟩
theorem Sits.e3 {w:World} {g:Nat} {t:TypeId} {a0 a1 a2:Value} {l:List Value} (h:Sits w g t ⟨a0::a1::a2::l⟩):w.cell? ⟨g,0,none⟩=some a0/\w.cell? ⟨g,1,none⟩=some a1/\w.cell? ⟨g,2,none⟩=some a2:=⟨h.c0,h.c1,h.c2⟩
theorem Sits.e4 {w:World} {g:Nat} {t:TypeId} {a0 a1 a2 a3:Value} {l:List Value} (h:Sits w g t ⟨a0::a1::a2::a3::l⟩):w.cell? ⟨g,0,none⟩=some a0/\w.cell? ⟨g,1,none⟩=some a1/\w.cell? ⟨g,2,none⟩=some a2/\w.cell? ⟨g,3,none⟩=some a3:=⟨h.c0,h.c1,h.c2,h.c3⟩
theorem Sits.e5 {w:World} {g:Nat} {t:TypeId} {a0 a1 a2 a3 a4:Value} {l:List Value} (h:Sits w g t ⟨a0::a1::a2::a3::a4::l⟩):w.cell? ⟨g,0,none⟩=some a0/\w.cell? ⟨g,1,none⟩=some a1/\w.cell? ⟨g,2,none⟩=some a2/\w.cell? ⟨g,3,none⟩=some a3/\w.cell? ⟨g,4,none⟩=some a4:=⟨h.c0,h.c1,h.c2,h.c3,h.c4⟩
theorem Sits.e6 {w:World} {g:Nat} {t:TypeId} {a0 a1 a2 a3 a4 a5:Value} {l:List Value} (h:Sits w g t ⟨a0::a1::a2::a3::a4::a5::l⟩):w.cell? ⟨g,0,none⟩=some a0/\w.cell? ⟨g,1,none⟩=some a1/\w.cell? ⟨g,2,none⟩=some a2/\w.cell? ⟨g,3,none⟩=some a3/\w.cell? ⟨g,4,none⟩=some a4/\w.cell? ⟨g,5,none⟩=some a5:=⟨h.c0,h.c1,h.c2,h.c3,h.c4,h.c5⟩
theorem Sits.e7 {w:World} {g:Nat} {t:TypeId} {a0 a1 a2 a3 a4 a5 a6:Value} {l:List Value} (h:Sits w g t ⟨a0::a1::a2::a3::a4::a5::a6::l⟩):w.cell? ⟨g,0,none⟩=some a0/\w.cell? ⟨g,1,none⟩=some a1/\w.cell? ⟨g,2,none⟩=some a2/\w.cell? ⟨g,3,none⟩=some a3/\w.cell? ⟨g,4,none⟩=some a4/\w.cell? ⟨g,5,none⟩=some a5/\w.cell? ⟨g,6,none⟩=some a6:=⟨h.c0,h.c1,h.c2,h.c3,h.c4,h.c5,h.c6⟩
theorem Sits.e8 {w:World} {g:Nat} {t:TypeId} {a0 a1 a2 a3 a4 a5 a6 a7:Value} {l:List Value} (h:Sits w g t ⟨a0::a1::a2::a3::a4::a5::a6::a7::l⟩):w.cell? ⟨g,0,none⟩=some a0/\w.cell? ⟨g,1,none⟩=some a1/\w.cell? ⟨g,2,none⟩=some a2/\w.cell? ⟨g,3,none⟩=some a3/\w.cell? ⟨g,4,none⟩=some a4/\w.cell? ⟨g,5,none⟩=some a5/\w.cell? ⟨g,6,none⟩=some a6/\w.cell? ⟨g,7,none⟩=some a7:=⟨h.c0,h.c1,h.c2,h.c3,h.c4,h.c5,h.c6,h.c7⟩
theorem Sits.e9 {w:World} {g:Nat} {t:TypeId} {a0 a1 a2 a3 a4 a5 a6 a7 a8:Value} {l:List Value} (h:Sits w g t ⟨a0::a1::a2::a3::a4::a5::a6::a7::a8::l⟩):w.cell? ⟨g,0,none⟩=some a0/\w.cell? ⟨g,1,none⟩=some a1/\w.cell? ⟨g,2,none⟩=some a2/\w.cell? ⟨g,3,none⟩=some a3/\w.cell? ⟨g,4,none⟩=some a4/\w.cell? ⟨g,5,none⟩=some a5/\w.cell? ⟨g,6,none⟩=some a6/\w.cell? ⟨g,7,none⟩=some a7/\w.cell? ⟨g,8,none⟩=some a8:=⟨h.c0,h.c1,h.c2,h.c3,h.c4,h.c5,h.c6,h.c7,h.c8⟩
theorem Sits.free (h:Sits w g t cs) (i:Nat):w.frozen? ⟨g,i,none⟩=false:=by
 unfold Sits at h;simp [World.frozen?,h]
theorem Sits.keep (h:Sits w g t cs) (k:aa X w w') (hn:¬ X g):Sits w' g t cs:=(k.block g h.lt hn).trans h
theorem Sits.alloc (h:Sits w g t cs) (o:Obj):Sits (w.alloc o) g t cs:=(Below.heap_alloc w o g h.lt).trans h
theorem Sits.new (w:World) (t:TypeId) (cs:Array Value):Sits (w.alloc (.cells cs t)) w.heap.size t cs:=heap_alloc_new w _
theorem Sits.made (hg:g=w.heap.size) (t:TypeId) (cs:Array Value):Sits (w.alloc (.cells cs t)) g t cs:=by rw [hg];exact Sits.new w t cs
theorem Sits.drew (h:Sits w g t cs):Sits w.drew g t cs:=h
theorem Sits.put (h:Sits w g t cs) (i:Nat) (u:Value):Sits (w.setCell ⟨g,i,none⟩ u) g t (cs.setIfInBounds i u):=by
 unfold Sits at h ⊢;simp [World.setCell,Array.getElem?_modify,h]
theorem Sits.far (h:Sits w g t cs) {p:Addr} (hp:g≠p.block) (u:Value):Sits (w.setCell p u) g t cs:=(Below.heap_setCell w p u g hp).trans h
theorem Sits.below {B:Nat} (h:Sits w g t cs) (hb:Below B w w') (hg:g<B):Sits w' g t cs:=(hb.block g hg).trans h
theorem Sits.grown {row:Option Nat} (h:Sits w g t cs) (hb:w.grownBy w' row) (hg:row≠some g):Sits w' g t cs:=(hb.block g h.lt (fun e=>hg e.symm)).trans h
theorem Sits.differ {g':Nat} {t':TypeId} {cs':Array Value} (h:Sits w g t cs) (h':Sits w g' t' cs') (hne:t≠t'):g≠g':=by
 rintro rfl;unfold Sits at h h';rw [h] at h';injection h' with h';injection h' with _ ht;exact hne ht
theorem aa.refl (X:Nat->Prop) (w:World):aa X w w:=⟨rfl,rfl,rfl,Nat.le_refl _,fun _ _ _=>rfl⟩
theorem aa.trans (h:aa X w w') (k:aa X w' w''):aa X w w'' :=
 ⟨k.os.trans h.os,k.tape.trans h.tape,k.output.trans h.output,Nat.le_trans h.size k.size,fun b hb hn=>(k.block b (Nat.lt_of_lt_of_le hb h.size) hn).trans (h.block b hb hn)⟩
theorem aa.drew (h:aa X w w'):aa X w w'.drew:=⟨h.os,h.tape,h.output,h.size,h.block⟩
theorem aa.alloc (h:aa X w w') (o:Obj):aa X w (w'.alloc o) :=
 h.trans ⟨rfl,rfl,rfl,by simp,fun b hb _=>Below.heap_alloc _ _ _ hb⟩
theorem aa.put (h:aa X w w') {p:Addr} (hp:X p.block \/ w.heap.size<=p.block) (u:Value):aa X w (w'.setCell p u) :=
 ⟨h.os,h.tape,h.output,by simpa [World.setCell] using h.size,fun b hb hn=>(Below.heap_setCell _ _ _ _ (by
  rintro rfl;rcases hp with hp | hp
  ·exact hn hp
  ·omega)).trans (h.block b hb hn)⟩
theorem xz {B:Nat} (h:Below B w w'):aa (fun b=>B<=b) w w':=⟨h.os,h.tape,h.output,h.size,fun b _ hn=>h.block b (by omega)⟩
theorem behind {B:Nat} {a:World} (h:Below B a w) (k:aa X w w') (hB:B<=w.heap.size) (hx:∀ b,X b->B<=b):Below B a w' :=
 h.trans ⟨k.os,k.tape,k.output,k.size,fun b hb=>k.block b (by omega) (fun hb'=>by have:=hx b hb';omega)⟩
end
theorem cZ {a b:Bool} (h:a=b):Ending.returned (.bool a) = .returned (.bool b):=by rw [h]
def fJ (s:ByteArray) (k:Nat):UInt8:=s.data.toList.getD k 0
def dJ (s:ByteArray) (k:Nat):Int:=(fJ s k).toNat
def ic (s:ByteArray) (k:Nat):Bool:=decide (k=s.size)
def aY (s:ByteArray) (k:Nat):Int:=(pl s.data.toList k).1
def bL (s:ByteArray) (k:Nat):Int:=(pl s.data.toList k).2
theorem Cw (s:ByteArray) (k:Nat):0<=dJ s k/\dJ s k<256:=by
 have:=(fJ s k).toNat_lt;unfold dJ;omega
theorem Tm (s:ByteArray) (k:Nat) (h:k<s.size):s[k]=fJ s k:=by
 have hl:k<s.data.toList.length:=h;unfold fJ;rw [List.getD_eq_getElem?_getD,List.getElem?_eq_getElem hl];rfl
theorem ym (s:ByteArray) (k:Nat) (h:s.size<=k):fJ s k=0:=by
 have hl:s.data.toList.length<=k:=h;unfold fJ;rw [List.getD_eq_getElem?_getD,List.getElem?_eq_none hl];rfl
theorem nX (s:ByteArray) (k:Nat) (h:k<s.size):(s[k].toNat:Int)=dJ s k:=by unfold dJ;rw [Tm s k h]
theorem IX (s:ByteArray) (k:Nat) (h:s.size<=k):dJ s k=0:=by unfold dJ;rw [ym s k h];rfl
theorem Es (s:ByteArray) (k:Nat):1<=aY s k/\aY s k<=k+1/\1<=bL s k/\bL s k<=k+1:=by
 have:=Vv s.data.toList k;unfold aY bL;omega
theorem IY (s:ByteArray) (k:Nat) (h:k<s.size) (hb:dJ s k=10):aY s (k+1)=aY s k+1/\bL s (k+1)=1:=by
 have hl:k<s.data.toList.length:=h;have hc:fJ s k=10:=by unfold dJ at hb;exact UInt8.toNat_inj.1 (by have:(10:UInt8).toNat=10:=rfl;omega)
 have e:=Ct s.data.toList k hl;have e':s.data.toList.getD k 0=10:=hc;rw [e'] at e;unfold aY bL;rw [e];simp [step1]
theorem IZ (s:ByteArray) (k:Nat) (h:k<s.size) (hb:¬ dJ s k=10):aY s (k+1)=aY s k/\bL s (k+1)=bL s k+1:=by
 have hl:k<s.data.toList.length:=h;have hc:¬ fJ s k=10:=by intro e;apply hb;unfold dJ;rw [e];rfl
 have e:=Ct s.data.toList k hl;have e':(s.data.toList.getD k 0 == 10)=false:=by simpa [fJ] using hc
 unfold step1 at e;rw [e'] at e;unfold aY bL;rw [e];simp
def dU (s:ByteArray) (k:Nat):Array Value:=#[.int .u8 (dJ s k),.bool (ic s k),.int .i64 k,.int .i64 (aY s k),.int .i64 (bL s k)]
def aB (s:ByteArray) (k:Nat):Nat:=if k<s.size then k+1 else k
theorem iP (s:ByteArray) (k:Nat) (w:World) :
  Calls Tryz.prog 35 #[.int .u8 (dJ s k)] w fun e w'=>e = .returned (.bool (iO (fJ s k)))/\w=w':=by
 have e:iO (fJ s k)=(decide (48<=dJ s k) && decide (dJ s k<=57)):=by
  unfold iO dJ;congr 1 <;> (simp;omega)
 rw [e];clear e;have b0:=(Cw s k).1;generalize dJ s k=b at *;by_cases h:48<=b
 all_goals
  by_cases h':b<=57
  all_goals
   go_enter Tryz.func35,Tryz.ntmps35;go_wp2
   go_ret;exact ⟨cZ (by simp [h,h']),rfl⟩
theorem gG (s:ByteArray) (k:Nat) (w:World) :
  Calls Tryz.prog 36 #[.int .u8 (dJ s k)] w fun e w'=>e = .returned (.bool (jA (fJ s k)))/\w=w':=by
 have e:jA (fJ s k)=(decide (97<=dJ s k) && decide (dJ s k<=122)):=by
  unfold jA dJ;congr 1 <;> (simp;omega)
 rw [e];clear e;have b0:=(Cw s k).1;generalize dJ s k=b at *;by_cases h:97<=b
 all_goals
  by_cases h':b<=122
  all_goals
   go_enter Tryz.func36,Tryz.ntmps36;go_wp2
   go_ret;exact ⟨cZ (by simp [h,h']),rfl⟩
theorem Cx (s:ByteArray) (k n:Nat) (hn:n<256):decide (dJ s k=(n:Int))=(fJ s k == n.toUInt8):=by
 have e:(dJ s k=(n:Int)) ↔ (fJ s k=n.toUInt8):=by
  unfold dJ
  constructor
  ·intro h
   apply UInt8.toNat_inj.1;have:n.toUInt8.toNat=n:=by simp;omega
   omega
  ·intro h;rw [h]
   have:n.toUInt8.toNat=n:=by simp;omega
   omega
 simp only [e];rfl
theorem lD (s:ByteArray) (k n:Nat) (hn:n<256):(dJ s k == (n:Int))=(fJ s k == n.toUInt8):=by
 rw [<- Cx s k n hn];exact Bool.eq_iff_iff.2 (by simp)
theorem Et {s:ByteArray} {k:Nat} (h:yE (fJ s k)=false):(dJ s k == 32)=false/\(dJ s k == 9)=false/\(dJ s k == 10)=false:=by
 have h1:=lD s k 32 (by omega);have h2:=lD s k 9 (by omega);have h3:=lD s k 10 (by omega);unfold yE at h;simp only [Bool.or_eq_false_iff] at h
 exact ⟨h1.trans h.1.1,h2.trans h.1.2,h3.trans h.2⟩
theorem Bg {s:ByteArray} {k:Nat} (h:yE (fJ s k)=true) :
  (dJ s k == 32)=true \/ ((dJ s k == 32)=false/\(dJ s k == 9)=true) \/ ((dJ s k == 32)=false/\(dJ s k == 9)=false/\(dJ s k == 10)=true):=by
 have h1:=lD s k 32 (by omega);have h2:=lD s k 9 (by omega);have h3:=lD s k 10 (by omega);unfold yE at h;rw [<- show (dJ s k == 32)=(fJ s k == 32) from h1,<- show (dJ s k == 9)=(fJ s k == 9) from h2,<- show (dJ s k == 10)=(fJ s k == 10) from h3] at h;cases e1:(dJ s k == 32) <;> cases e2:(dJ s k == 9) <;> cases e3:(dJ s k == 10) <;> simp [e1,e2,e3] at h ⊢
theorem yn (s:ByteArray) (k:Nat):(dJ s k == 35)=(fJ s k == 35):=lD s k 35 (by omega)
theorem Cy (s:ByteArray) (k:Nat):(dJ s k != 10)=LM (fJ s k):=by
 have h:=lD s k 10 (by omega);unfold LM bne;exact congrArg _ h
theorem Bh (s:ByteArray) (k:Nat) (w:World) :
  Calls Tryz.prog 38 #[.int .u8 (dJ s k)] w fun e w'=>e = .returned (.bool (grows (fJ s k)))/\w=w':=by
 have e:grows (fJ s k)=(decide (dJ s k=61) || decide (dJ s k=33) || decide (dJ s k=60)):=by
  have h1:=Cx s k 61 (by omega);have h2:=Cx s k 33 (by omega);have h3:=Cx s k 60 (by omega);unfold grows;exact congr (congrArg _ (congr (congrArg _ h1.symm) h2.symm)) h3.symm
 rw [e];clear e;generalize dJ s k=b;by_cases h:b=61
 ·subst h
  go_enter Tryz.func38,Tryz.ntmps38;go_wp2
  go_ret;exact ⟨rfl,rfl⟩
 by_cases h':b=33
 ·subst h'
  go_enter Tryz.func38,Tryz.ntmps38;go_wp2
  go_ret;exact ⟨rfl,rfl⟩
 by_cases h'':b=60
 ·subst h''
  go_enter Tryz.func38,Tryz.ntmps38;go_wp2
  go_ret;exact ⟨rfl,rfl⟩
 go_enter Tryz.func38,Tryz.ntmps38;go_wp2
 go_ret;exact ⟨cZ (by simp [h,h',h'']),rfl⟩
theorem JV (t:ByteArray) (b:Int) (w:World) :
  Calls Tryz.prog 113 #[.string t,.int .u8 b] w fun e w'=>e = .returned (.int .i64 (Lib.indexByte t.data.toList b.toNat.toUInt8))/\w=w':=by
 go_enter Tryz.func113,Tryz.ntmps113;go_wp2
 rw [run_callFunc_extern Tryz.func142 (by kernel_rfl) (by kernel_rfl) (by kernel_rfl) (e:=Extern.BytealgIndexByte.indexByte) (by kernel_rfl),Lib.run_indexByteString];simp only [Result.andThen]
 rw [Oper.upon_value];go_wp2
 go_ret;exact ⟨rfl,rfl⟩
theorem Cz (l:List UInt8) (c:UInt8):0<=Lib.indexByte l c ↔ c ∈ l:=by
 induction l with
 | nil=>simp [Lib.indexByte]
 | cons b r ih =>
  have hg:=Lib.indexByte_ge r c;by_cases h:b=c
  ·subst h;simp [Lib.indexByte]
  ·have h':(b == c)=false:=by simpa using h
   have h'':¬ c=b:=fun e=>h e.symm
   by_cases hr:Lib.indexByte r c = -1
   ·have hn:¬ c ∈ r:=fun hm=>by have:=ih.2 hm;omega
    simp [Lib.indexByte,h',hr,h'',hn]
   ·have hr':(Lib.indexByte r c == -1)=false:=by simpa using hr
    have hm:c ∈ r:=ih.1 (by omega);simp only [Lib.indexByte,h',hr',Bool.false_eq_true,if_false,List.mem_cons,hm,or_true,iff_true]
    omega
theorem fA (s:ByteArray) (k:Nat) (w:World) :
  Calls Tryz.prog 37 #[.int .u8 (dJ s k)] w fun e w'=>e = .returned (.bool (Cs (fJ s k)))/\w=w':=by
 have hc:(dJ s k).toNat.toUInt8=fJ s k:=by unfold dJ;simp
 have e:Cs (fJ s k)=decide (0<=Lib.indexByte (ByteArray.mk #[61,33,60,43,45,124,94,42,47,37,38,40,41,123,125,44,59,58]).data.toList (dJ s k).toNat.toUInt8):=by
  rw [hc];have:=Cz signs (fJ s k);unfold Cs;exact decide_eq_decide.2 this.symm
 rw [e];clear e hc;go_enter Tryz.func37,Tryz.ntmps37;go_wp2_with (first | (go_at_call 113;refine (JV _ _ _).mono ?_;rintro e w' ⟨rfl,rfl⟩) | go_in)
 go_ret;exact ⟨rfl,rfl⟩
def yJ (s:ByteArray) (k T I A:Nat) (w w':World) (e:Ending):Prop :=
 e = .returned (.agg #[.int .u8 (dJ s k),.bool (ic s k),.int .i64 k,.int .i64 (aY s k),.int .i64 (bL s k)])/\Sits w' T 9 #[.string s]/\Sits w' I 3 #[.int .i64 (aB s k)]/\Sits w' A 29 #[.int .i64 (aY s (aB s k)),.int .i64 (bL s (aB s k))]/\aa (fun b=>b=I \/ b=A) w w'
/-- The closure tells the byte at k, and goes on; at the end it tells the end, however often. -/
theorem jM (s:ByteArray) (k T I A:Nat) (w:World) (hs:s.size<=1048576) (hk:k<=s.size) (hT:Sits w T 9 #[.string s]) (hI:Sits w I 3 #[.int .i64 k])
  (hA:Sits w A 29 #[.int .i64 (aY s k),.int .i64 (bL s k)]) :
  Calls Tryz.prog 78 #[.pointer (some ⟨I,0,none⟩),.pointer (some ⟨T,0,none⟩),.pointer (some ⟨A,0,none⟩)] w fun e w'=>yJ s k T I A w w' e:=by
 have cT:=hT.cell 0;have cI:=hI.cell 0;have fI:=hI.free 0;have cA0:=hA.cell 0;have cA1:=hA.cell 1;have fA0:=hA.free 0;have fA1:=hA.free 1;have hTI:T≠I:=hT.differ hI (by decide);have XO:T≠A:=hT.differ hA (by decide);have Ec:I≠A:=hI.differ hA (by decide);have lT:=hT.lt;have lI:=hI.lt;have lA:=hA.lt;have hp:=Es s k;simp only [List.getElem?_toArray,List.getElem?_cons_zero,List.getElem?_cons_succ] at cT cI cA0 cA1
 by_cases hlt:k<s.size
 ·have hb:=nX s k hlt
  have he:ic s k=false:=by simp [ic];omega
  have e:aB s k=k+1:=by simp [aB,hlt]
  have HE:=Lib.hid he;clear he;have HN:=Lib.hid e;clear e;by_cases hn:dJ s k=10
  ·have HL:=Lib.hid (IY s k hlt hn)
   go_enter Tryz.func78,Tryz.ntmps78;go_wp2
   go_region
   go_wp2
   refine bodyPost_ret (v:=.agg (dU s k)) (by simp [results,go_sem,dU,HE.out,hn]) rfl ⟨rfl,?_,?_,?_,?_⟩
   ·exact ((((((hT.far hTI _).far XO _).far XO _).far XO _).alloc _).alloc _).drew
   ·rw [HN.out]
    exact ((((((hI.put 0 _).far Ec _).far Ec _).far Ec _).alloc _).alloc _).drew
   ·rw [HN.out,HL.out.1,HL.out.2]
    exact ((((((hA.far (Ne.symm Ec) _).put 1 _).put 0 _).put 1 _).alloc _).alloc _).drew
   ·exact ((((((aa.refl _ _).put (.inl (.inl rfl)) _).put (.inl (.inr rfl)) _).put (.inl (.inr rfl)) _).put (.inl (.inr rfl)) _).alloc _).alloc _ |>.drew
  ·have HL:=Lib.hid (IZ s k hlt hn)
   go_enter Tryz.func78,Tryz.ntmps78;go_wp2
   go_region
   go_wp2
   refine bodyPost_ret (v:=.agg (dU s k)) (by simp [results,go_sem,dU,HE.out]) rfl ⟨rfl,?_,?_,?_,?_⟩
   ·exact ((((hT.far hTI _).far XO _).alloc _).alloc _).drew
   ·rw [HN.out]
    exact ((((hI.put 0 _).far Ec _).alloc _).alloc _).drew
   ·rw [HN.out,HL.out.1,HL.out.2]
    exact ((((hA.far (Ne.symm Ec) _).put 1 _).alloc _).alloc _).drew
   ·exact ((((aa.refl _ _).put (.inl (.inl rfl)) _).put (.inl (.inr rfl)) _).alloc _).alloc _ |>.drew
 ·obtain rfl:k=s.size:=by omega
  have hb:=IX s s.size (Nat.le_refl _);go_enter Tryz.func78,Tryz.ntmps78;go_wp2
  have e:aB s s.size=s.size:=by simp [aB]
  refine bodyPost_ret (v:=.agg (dU s s.size)) (by simp [results,go_sem,dU,ic,hb]) rfl ⟨rfl,hT.alloc _,by rw [e];exact hI.alloc _,by rw [e];exact hA.alloc _,(aa.refl _ _).alloc _⟩
def Gn (s:ByteArray) (w w':World) (e:Ending):Prop :=
 ∃ T I A:Nat,e = .returned (.func (.func 78) #[] #[.pointer (some ⟨I,0,none⟩),.pointer (some ⟨T,0,none⟩),.pointer (some ⟨A,0,none⟩)])/\w.heap.size<=T/\w.heap.size<=I/\w.heap.size<=A /\
  Sits w' T 9 #[.string s]/\Sits w' I 3 #[.int .i64 0]/\Sits w' A 29 #[.int .i64 1,.int .i64 1]/\Below w.heap.size w w'
theorem Gp (s:ByteArray) (w:World):Calls Tryz.prog 34 #[.string s] w fun e w'=>Gn s w w' e:=by
 go_enter Tryz.func34,Tryz.ntmps34;go_wp2
 go_ret;refine ⟨w.heap.size,w.heap.size+1,w.heap.size+1+1,rfl,by omega,by omega,by omega,((Sits.new _ _ _).alloc _).alloc _,(Sits.made (by simp) _ _).alloc _,Sits.made (by simp) _ _,?_⟩;exact (((Below.refl _ _).alloc (by omega) _).alloc (by simp) _).alloc (by simp;omega) _
def jumps (J:Nat->Act->World->Prop) (Q:Exit->Act->World->Prop):Exit->Act->World->Prop
 | .goto l,a,w=>J l a w
 | e,a,w=>Q e a w
def yK (P:Program) (c:Code) (h:Nat) (B:Nat->Prop) (J:Nat->Act->World->Prop) (Q:Exit->Act->World->Prop):Exit->Act->World->Prop
 | .goto l,a,w=>(l=h/\∃ n',B n' /\ J n' a w) \/ (l≠h/\∃ rest m,(∀ n',n' < m->B n')/\findLabel c l=some rest/\rest.wp P (Exit.jump h (fun a' w'=>∃ n',n' < m/\J n' a' w') Q) a w)
 | e,a,w=>Q e a w
section
variable {P : Program} {a : Act} {w : World} {Q : Exit → Act → World → Prop}
theorem Ay {c:Code} (M:Nat->Nat->Act->World->Prop)
  (first:c.wp P (jumps (fun l a w=>∃ n,M l n a w) Q) a w)
  (pass:∀ l n a w,M l n a w->∃ rest,findLabel c l=some rest/\rest.wp P (jumps (fun l' a' w'=>∃ n',n' < n/\M l' n' a' w') Q) a w):(Code.scope c).wp P Q a w:=by
 intro b k cs;have hg:∀ l rest,findLabel c l=some rest->gotoIn l (.inScope c :: k)=some (.code rest :: .inScope c :: k):=fun l rest hf=>by simp [gotoIn,hf]
 have key:∀ n l a w,M l n a w->∃ rest,findLabel c l=some rest/\∃ e a' w',Q e a' w' /\ Arrives P (lone (b.at a (.code rest :: .inScope c :: k)) cs w) b k cs e a' w':=by
  intro n;induction n using Nat.strongRecOn with
  | _ n ih =>
   intro l a w hM;obtain ⟨rest,hf,hp⟩:=pass l n a w hM;refine ⟨rest,hf,?_⟩;obtain ⟨e,a₁,w₁,hq,harr⟩:=hp b (.inScope c :: k) cs;cases e with
   | normal=>exact ⟨.normal,a₁,w₁,hq,Steps.trans harr (.one step_inScope)⟩
   | exit id=>exact ⟨.exit id,a₁,w₁,hq,fun k' hk=>harr k' (by simp [exitTo,hk])⟩
   | goto l' =>
    obtain ⟨n',hlt,hM'⟩:=hq;obtain ⟨rest',hf',e₂,a₂,w₂,hq₂,harr₂⟩:=ih n' hlt l' a₁ w₁ hM';exact ⟨e₂,a₂,w₂,hq₂,.of_steps (harr _ (hg l' rest' hf')) harr₂⟩
   | ret=>exact ⟨_,a₁,w₁,hq,harr⟩
   | panic ch=>exact ⟨_,a₁,w₁,hq,harr⟩
   | outgrown=>exact ⟨_,a₁,w₁,hq,harr⟩
 obtain ⟨e,a₁,w₁,hq,harr⟩:=first b (.inScope c :: k) cs
 cases e with
 | normal=>exact ⟨.normal,a₁,w₁,hq,.head step_scope (Steps.trans harr (.one step_inScope))⟩
 | exit id=>exact ⟨.exit id,a₁,w₁,hq,fun k' hk => .head step_scope (harr k' (by simp [exitTo,hk]))⟩
 | goto l' =>
  obtain ⟨n,hM⟩:=hq;obtain ⟨rest,hf,e₂,a₂,w₂,hq₂,harr₂⟩:=key n l' a₁ w₁ hM;exact ⟨e₂,a₂,w₂,hq₂,.of_steps (.head step_scope (harr _ (hg l' rest hf))) harr₂⟩
 | ret=>exact ⟨_,a₁,w₁,hq,.of_steps (.one step_scope) harr⟩
 | panic ch=>exact ⟨_,a₁,w₁,hq,.of_steps (.one step_scope) harr⟩
 | outgrown=>exact ⟨_,a₁,w₁,hq,.of_steps (.one step_scope) harr⟩
theorem xA {c:Code} (h:c.wp P Q a w):(Code.skip.seq c).wp P Q a w:=wp_seq_k fun _ hK=>wp_skip (hK _ _ h)
theorem CB {c rest:Code} (h:Nat) (J:Nat->Act->World->Prop) (hf:findLabel c h=some (Code.skip.seq rest))
    (pass:∀ n a w,J n a w->rest.wp P (yK P c h (· < n) J Q) a w)
    (first:(∀ n a w,J n a w->rest.wp P (yK P c h (fun _=>True) J Q) a w)->c.wp P (yK P c h (fun _=>True) J Q) a w) :
    (Code.scope c).wp P Q a w:=by
  have first':=first fun n a w hJ=>wp_mono (pass n a w hJ) (by
    intro e a' w' hq;cases e with
    | goto l =>
      rcases hq with ⟨e,n',_,hJ'⟩ | ⟨hne,r,m,_,hr,hw⟩
      · exact .inl ⟨e,n',trivial,hJ'⟩
      · exact .inr ⟨hne,r,m,fun _ _=>trivial,hr,hw⟩
    | _=>exact hq)
  have key:∀ (B:Nat->Prop) (n0:Nat->Prop),(∀ m,B m->n0 (2 * m+2))->(∀ m,(∀ n',n' < m->B n')->n0 (2 * m+1))->∀ e a' w',yK P c h B J Q e a' w' ->
      jumps (fun l a w=>∃ n,n0 n/\((l=h/\∃ m,n=2 * m+2/\J m a w) \/
        (l≠h/\∃ r,findLabel c l=some r/\∃ m,n=2 * m+1/\r.wp P (Exit.jump h (fun a' w'=>∃ n',n' < m/\J n' a' w') Q) a w))) Q e a' w':=by
    intro B n0 h1 h2 e a' w' hq;cases e with
    | goto l =>
      rcases hq with ⟨e,n',hB,hJ'⟩ | ⟨hne,r,m,hB,hr,hw⟩
      · exact ⟨2 * n' + 2,h1 _ hB,.inl ⟨e,n',rfl,hJ'⟩⟩
      · exact ⟨2 * m+1,h2 _ hB,.inr ⟨hne,r,hr,m,rfl,hw⟩⟩
    | _=>exact hq
  refine Ay (fun l n a w=>(l=h/\∃ m,n=2 * m+2/\J m a w) \/
      (l≠h/\∃ r,findLabel c l=some r/\∃ m,n=2 * m+1/\r.wp P (Exit.jump h (fun a' w'=>∃ n',n' < m/\J n' a' w') Q) a w)) ?_ ?_
  · refine wp_mono (wp_mono first' (key (fun _=>True) (fun _=>True) (fun _ _=>trivial) (fun _ _=>trivial))) ?_;intro e a' w' hq;cases e with
    | goto l=>obtain ⟨n,_,hh⟩:=hq;exact ⟨n,hh⟩
    | _=>exact hq
  · rintro l n a w (⟨rfl,m,rfl,hJ⟩ | ⟨hne,r,hr,m,rfl,hw⟩)
    · refine ⟨_,hf,wp_mono (xA (pass m a w hJ)) (key (· < m) (· < 2 * m+2) (fun _ _=>by omega) (fun k hk=>?_))⟩;rcases Nat.eq_zero_or_pos k with h0 | h0
      · omega
      · have:=hk (k - 1) (by omega);omega
    · refine ⟨r,hr,wp_mono hw ?_⟩;intro e a' w' hq;cases e with
      | goto l'=>obtain ⟨e',n',hlt,hJ'⟩:=hq;exact ⟨2 * n' + 2,by omega,.inl ⟨e',n',rfl,hJ'⟩⟩
      | _=>exact hq
theorem oD {c rest:Code} {h l:Nat} {B:Nat->Prop} {J:Nat->Act->World->Prop} (m:Nat) (hB:∀ n',n' < m->B n') (hne:l≠h) (hr:findLabel c l=some (Code.skip.seq rest))
  (hw:rest.wp P (Exit.jump h (fun a' w'=>∃ n',n' < m/\J n' a' w') Q) a w):yK P c h B J Q (.goto l) a w:=.inr ⟨hne,_,m,hB,hr,xA hw⟩
theorem qL {h m n':Nat} {J:Nat->Act->World->Prop} (hlt:n' < m) (hJ:J n' a w):Exit.jump h (fun a' w'=>∃ n',n' < m/\J n' a' w') Q (.goto h) a w:=⟨rfl,n',hlt,hJ⟩
end
def slot (t:Array Value) (i:Nat):Value:=t.getD i undef
theorem spread (t:Array Value) (n:Nat) (h:t.size=n):t=((List.range n).map (slot t)).toArray:=by
 apply Array.ext
 ·simp [h]
 ·intro i h1 h2
  simp [slot,Array.getD,h1]
def eG (t:Tok):List Value:=[.int .u8 t.kind,.string ⟨t.text.toArray⟩,.int .u64 t.num,.int .i64 t.line,.int .i64 t.xy]
def toks (ts:List Tok):List Value:=ts.flatMap eG
theorem vY (ts:List Tok) (t:Tok):toks (ts ++ [t])=toks ts ++ eG t:=by simp [toks]
structure Mg where
 R:Nat
 F:Nat
 H:Nat
 T:Nat
 I:Nat
 A:Nat
structure Mem (s:ByteArray) (w wr:World) (b:Mg) (k:Nat) (fc:Array Value) (v:Value) (acc:List Tok):Prop where
 hR:Sits wr b.R 29 #[.int .i64 0,.int .i64 0]
 hF:Sits wr b.F 95 fc
 hH:Sits wr b.H 95 (dU s k)
 hT:Sits wr b.T 9 #[.string s]
 hI:Sits wr b.I 3 #[.int .i64 (aB s k)]
 hA:Sits wr b.A 29 #[.int .i64 (aY s (aB s k)),.int .i64 (bL s (aB s k))]
 XP:b.R≠b.A
 U8:b.F≠b.H
 own:wr.ownsRow w.heap.size 99 5 v acc.length (toks acc)
 lR:w.heap.size<=b.R
 lF:w.heap.size<=b.F
 lH:w.heap.size<=b.H
 lT:w.heap.size<=b.T
 lI:w.heap.size<=b.I
 lA:w.heap.size<=b.A
 low:Below w.heap.size w wr
theorem aK {w:World} {base:Nat} {e t:TypeId} {size n g:Nat} {v:Value} {xs:List Value} {cs:Array Value} (h:w.ownsRow base e size v n xs) (hg:Sits w g t cs) (hne:e≠t):v.ownBlock≠some g:=by
 rcases h.2 with ⟨rfl,_⟩ | ⟨g',cap,cur,rfl,_,hh,_⟩
 ·simp [Value.ownBlock]
 ·intro he
  have:g' = g:=by simpa [Value.ownBlock] using he
  subst this;exact Sits.differ (t:=e) hh hg hne rfl
theorem qM {w w':World} {base:Nat} {e:TypeId} {size n:Nat} {v:Value} {xs:List Value} {X:Nat->Prop} (h:w.ownsRow base e size v n xs) (k:aa X w w') (hn:∀ g,v.ownBlock=some g->¬ X g):w'.ownsRow base e size v n xs:=by
 refine ⟨h.1,?_⟩;rcases h.2 with h2 | ⟨g,cap,cur,rfl,hb,hh,r⟩
 ·exact .inl h2
 ·exact .inr ⟨g,cap,cur,rfl,hb,(k.block g (lt_of_block hh) (hn g rfl)).trans hh,r⟩
section
variable {w w' : World} {g h : Nat} {t : TypeId} {cs : Array Value} {X : Nat → Prop} {c0 c1 c2 c3 c4 u0 u1 u2 u3 u4 : Value}
def uM (w:World) (g:Nat) (u0 u1 u2 u3 u4:Value):World :=
 ((((w.setCell ⟨g,0,none⟩ u0).setCell ⟨g,1,none⟩ u1).setCell ⟨g,2,none⟩ u2).setCell ⟨g,3,none⟩ u3).setCell ⟨g,4,none⟩ u4
theorem Mh (w:World) (g:Nat) (u0 u1 u2 u3 u4:Value):aa (fun b=>b=g) w (uM w g u0 u1 u2 u3 u4):=by
 unfold uM;refine aa.put (aa.put (aa.put (aa.put (aa.put (aa.refl _ _) ?_ _) ?_ _) ?_ _) ?_ _) ?_ _ <;> exact .inl rfl
theorem Sits.uM (h:Sits w g t #[c0,c1,c2,c3,c4]):Sits (uM w g u0 u1 u2 u3 u4) g t #[u0,u1,u2,u3,u4] :=
 ((((h.put 0 u0).put 1 u1).put 2 u2).put 3 u3).put 4 u4
theorem Sits.JW (h:Sits w g t #[c0,c1,c2,c3,c4]) :
  w.cell? ⟨g,0,none⟩=some c0/\w.cell? ⟨g,1,none⟩=some c1/\w.cell? ⟨g,2,none⟩=some c2/\w.cell? ⟨g,3,none⟩=some c3/\w.cell? ⟨g,4,none⟩=some c4 /\
  w.frozen? ⟨g,0,none⟩=false/\w.frozen? ⟨g,1,none⟩=false/\w.frozen? ⟨g,2,none⟩=false/\w.frozen? ⟨g,3,none⟩=false/\w.frozen? ⟨g,4,none⟩=false :=
 ⟨h.cell 0,h.cell 1,h.cell 2,h.cell 3,h.cell 4,h.free 0,h.free 1,h.free 2,h.free 3,h.free 4⟩
theorem Sits.eu {s:ByteArray} {k:Nat} (h:Sits w g t (dU s k)) :
  w.cell? ⟨g,0,none⟩=some (.int .u8 (dJ s k))/\w.cell? ⟨g,1,none⟩=some (.bool (ic s k))/\w.cell? ⟨g,2,none⟩=some (.int .i64 k)/\w.cell? ⟨g,3,none⟩=some (.int .i64 (aY s k))/\w.cell? ⟨g,4,none⟩=some (.int .i64 (bL s k)) /\
  w.frozen? ⟨g,0,none⟩=false/\w.frozen? ⟨g,1,none⟩=false/\w.frozen? ⟨g,2,none⟩=false/\w.frozen? ⟨g,3,none⟩=false/\w.frozen? ⟨g,4,none⟩=false:=Sits.JW h
theorem Sits.all2 (h:Sits w g t #[c0,c1]):w.cell? ⟨g,0,none⟩=some c0/\w.cell? ⟨g,1,none⟩=some c1/\w.frozen? ⟨g,0,none⟩=false/\w.frozen? ⟨g,1,none⟩=false :=
 ⟨h.cell 0,h.cell 1,h.free 0,h.free 1⟩
end
section
variable {s : ByteArray} {w wr w2 : World} {b : Mg} {k : Nat} {fc : Array Value} {v c0 c1 c2 c3 c4 : Value} {acc : List Tok}
theorem Mem.apart (m:Mem s w wr b k fc v acc):b.F≠b.R/\b.F≠b.T/\b.F≠b.I/\b.F≠b.A/\b.H≠b.R/\b.H≠b.T/\b.H≠b.I/\b.H≠b.A/\b.R≠b.I/\b.T≠b.I/\b.T≠b.A/\b.I≠b.A/\b.R≠b.T :=
 ⟨m.hF.differ m.hR (by decide),m.hF.differ m.hT (by decide),m.hF.differ m.hI (by decide),m.hF.differ m.hA (by decide),m.hH.differ m.hR (by decide),m.hH.differ m.hT (by decide),m.hH.differ m.hI (by decide),m.hH.differ m.hA (by decide),
  m.hR.differ m.hI (by decide),m.hT.differ m.hI (by decide),m.hT.differ m.hA (by decide),m.hI.differ m.hA (by decide),m.hR.differ m.hT (by decide)⟩
theorem Mem.first (m:Mem s w wr b k #[c0,c1,c2,c3,c4] v acc) :
  Mem s w (uM wr b.F (.int .u8 (dJ s k)) (.bool (ic s k)) (.int .i64 k) (.int .i64 (aY s k)) (.int .i64 (bL s k))) b k (dU s k) v acc:=by
 obtain ⟨a1,a2,a3,a4,_⟩:=m.apart;have K:=Mh wr b.F (.int .u8 (dJ s k)) (.bool (ic s k)) (.int .i64 k) (.int .i64 (aY s k)) (.int .i64 (bL s k))
 exact { m with
  hR:=m.hR.keep K (Ne.symm a1),hF:=m.hF.uM,hH:=m.hH.keep K (Ne.symm m.U8),hT:=m.hT.keep K (Ne.symm a2),hI:=m.hI.keep K (Ne.symm a3),hA:=m.hA.keep K (Ne.symm a4)
  own:=qM m.own K (fun g hg e=>aK m.own m.hF (by decide) (by rw [hg,e]))
  low:=behind m.low K m.low.size (fun _ e=>by rw [e];exact m.lF) }
theorem Mem.told (m:Mem s w wr b k fc v acc) {e:Ending} (h:yJ s (aB s k) b.T b.I b.A wr w2 e) :
  Sits w2 b.H 95 (dU s k) /\
  Mem s w (uM w2 b.H (.int .u8 (dJ s (aB s k))) (.bool (ic s (aB s k))) (.int .i64 (aB s k:Nat)) (.int .i64 (aY s (aB s k))) (.int .i64 (bL s (aB s k)))) b (aB s k) fc v acc:=by
 obtain ⟨a1,a2,a3,a4,a5,a6,a7,a8,a9,a10,a11,a12,a13⟩:=m.apart;obtain ⟨_,hT,hI,hA,K0⟩:=h;have hH:=m.hH.keep K0 (by rintro (h | h) <;> contradiction);refine ⟨hH,?_⟩;have K:=Mh w2 b.H (.int .u8 (dJ s (aB s k))) (.bool (ic s (aB s k))) (.int .i64 (aB s k:Nat)) (.int .i64 (aY s (aB s k))) (.int .i64 (bL s (aB s k)));have hR:=m.hR.keep K0 (by rintro (h | h);exact a9 h;exact m.XP h);have hF:=m.hF.keep K0 (by rintro (h | h) <;> contradiction)
 have Vw:=qM m.own K0 (fun g hg e=>by
  rcases e with e | e
  ·exact aK m.own m.hI (by decide) (by rw [hg,e])
  ·exact aK m.own m.hA (by decide) (by rw [hg,e]))
 have Eu:=behind m.low K0 m.low.size (fun g e=>by rcases e with e | e;rw [e];exact m.lI;rw [e];exact m.lA)
 exact { m with
  hR:=hR.keep K (Ne.symm a5),hF:=hF.keep K m.U8,hH:=hH.uM,hT:=hT.keep K (Ne.symm a6),hI:=hI.keep K (Ne.symm a7),hA:=hA.keep K (Ne.symm a8)
  own:=qM Vw K (fun g hg e=>aK Vw hH (by decide) (by rw [hg,e]))
  low:=behind Eu K Eu.size (fun _ e=>by rw [e];exact m.lH) }
theorem oF (s:ByteArray) (k:Nat) (hk:k<=s.size):aB s k<=s.size:=by unfold aB;split <;> omega
theorem oG (s:ByteArray) (k:Nat) (hk:k<s.size):aB s k=k+1:=by unfold aB;rw [if_pos hk]
theorem Mem.grew (m:Mem s w wr b k fc v acc) {w3:World} {v':Value} {o:Obj} (t:Tok) {c:List Value} (hc:c=eG t) (h:w3.ownsRow w.heap.size 99 5 v' (acc.length+1) (toks acc ++ c)) (hg:(wr.alloc o).grownBy w3 v.ownBlock) :
  Mem s w w3 b k fc v' (acc ++ [t]):=by
 subst hc
 exact {
  hR:=(m.hR.alloc o).grown hg (aK m.own m.hR (by decide))
  hF:=(m.hF.alloc o).grown hg (aK m.own m.hF (by decide))
  hH:=(m.hH.alloc o).grown hg (aK m.own m.hH (by decide))
  hT:=(m.hT.alloc o).grown hg (aK m.own m.hT (by decide))
  hI:=(m.hI.alloc o).grown hg (aK m.own m.hI (by decide))
  hA:=(m.hA.alloc o).grown hg (aK m.own m.hA (by decide))
  XP:=m.XP,U8:=m.U8
  own:=by rw [List.length_append,vY];exact h
  lR:=m.lR,lF:=m.lF,lH:=m.lH,lT:=m.lT,lI:=m.lI,lA:=m.lA
  low:=(m.low.alloc m.low.size o).grown hg (by have:=m.low.size;simp;omega) (fun g hg=>(m.own.lt g hg).1) }
theorem Mem.oH (m:Mem s w wr b k fc v acc) {w3:World} {v':Value} {o:Obj} (t:Tok) {c:List Value} (hc:c=eG t) (h:w3.ownsRow w.heap.size 99 5 v' (acc.length+1) (toks acc ++ c)) (hg:((wr.alloc o).drew).grownBy w3 v.ownBlock) :
  Mem s w w3 b k fc v' (acc ++ [t]):=m.grew t hc h (o:=o) ⟨hg.os,hg.tape,hg.output,hg.size,hg.block⟩
theorem jN (s:ByteArray) (k j:Nat):s.extract k j=⟨((s.data.toList.drop k).take (j - k)).toArray⟩:=by
 apply ByteArray.ext;rw [ByteArray.data_extract];apply Array.toList_inj.1;rw [Array.toList_extract]
theorem pg {l:List UInt8} {k d n v:Nat} {acc:List Tok} (hX:lex l (1,1)=(lex (l.drop k) (pl l k)).more acc) (hP:one (l.drop k) = .piece d n v) {j:Nat} (hj:j=k+n) :
  lex l (1,1)=(lex (l.drop j) (pl l j)).more (acc ++ [⟨d,(l.drop k).take (j - k),v,(pl l k).1,(pl l k).2⟩]):=by
 subst hj;rw [hX,jL hP,oC,Nat.add_sub_cancel_left]
theorem Vx (s:ByteArray) (k:Nat):(dJ s k == 61)=(fJ s k == 61):=lD s k 61 (by omega)
theorem PT {s:ByteArray} {k:Nat} (h:(dJ s k == 61)=true):k<s.size:=by
 rcases Nat.lt_or_ge k s.size with h' | h'
 ·exact h'
 ·rw [IX s k h'] at h;cases h
def aT (s:ByteArray) (k j:Nat):Nat:=num ((s.data.toList.drop k).take (j - k))
theorem pz (s:ByteArray) (k:Nat):aT s k k=0:=by unfold aT;rw [Nat.sub_self];rfl
theorem yL (s:ByteArray) (k j:Nat) (hk:k<=j) (hj:j<s.size) (h0:48<=dJ s j):(aT s k (j+1):Int)=10 * aT s k j+(dJ s j - 48):=by
 unfold aT;rw [JS _ k j hk hj,Em];have:dJ s j=((s.data.toList.getD j 0).toNat:Int):=rfl;omega
theorem yM {s:ByteArray} {j:Nat} (h:iO (fJ s j)=true):48<=dJ s j/\dJ s j<=57:=by
 unfold iO at h;simp only [Bool.and_eq_true,decide_eq_true_eq] at h
 unfold dJ;omega
theorem Ev {s:ByteArray} {j:Nat} (h:iO (fJ s j)=true):j<s.size:=by
 rcases Nat.lt_or_ge j s.size with h' | h'
 ·exact h'
 ·rw [ym s j h'] at h;cases h
theorem RS {s:ByteArray} {j:Nat} (h:cO (fJ s j)=true):j<s.size:=by
 rcases Nat.lt_or_ge j s.size with h' | h'
 ·exact h'
 ·rw [ym s j h'] at h;cases h
theorem Mem.begin {s:ByteArray} {w w1 w2:World} {T I A:Nat} {x0 x1 c0 c1 c2 c3 c4:Value} {e:Ending}
  (lT:w.heap.size+1+1<=T) (lI:w.heap.size+1+1<=I) (lA:w.heap.size+1+1<=A)
  (hlow:Below ((w.alloc (.cells #[x0,x1] 29)).alloc (.cells #[c0,c1,c2,c3,c4] 95)).heap.size ((w.alloc (.cells #[x0,x1] 29)).alloc (.cells #[c0,c1,c2,c3,c4] 95)) w1)
  (h:yJ s 0 T I A w1 w2 e) (hx0:x0 = .int .i64 0) (hx1:x1 = .int .i64 0) :
  Mem s w (w2.alloc (.cells (dU s 0) 95)) ⟨w.heap.size,w.heap.size+1,w2.heap.size,T,I,A⟩ 0 #[c0,c1,c2,c3,c4] (.slice none 0 0) []:=by
 subst hx0;subst hx1;obtain ⟨_,hT,hI,hA,K⟩:=h;have z:((w.alloc (.cells #[.int .i64 0,.int .i64 0] 29)).alloc (.cells #[c0,c1,c2,c3,c4] 95)).heap.size=w.heap.size+1+1:=by simp
 have z1:=hlow.size;have z2:=K.size;rw [z] at z1;have hR:Sits w1 w.heap.size 29 #[.int .i64 0,.int .i64 0]:=((Sits.new w _ _).alloc _).below hlow (by rw [z];omega);have hF:Sits w1 (w.heap.size+1) 95 #[c0,c1,c2,c3,c4]:=(Sits.made (by simp) _ _).below hlow (by rw [z];omega)
 exact {
  hR:=(hR.keep K (by rintro (h | h) <;> omega)).alloc _
  hF:=(hF.keep K (by rintro (h | h) <;> omega)).alloc _
  hH:=Sits.new _ _ _
  hT:=hT.alloc _
  hI:=hI.alloc _
  hA:=hA.alloc _
  XP:=by show w.heap.size≠A;omega
  U8:=by show w.heap.size+1≠w2.heap.size;omega
  own:=World.ownsRow_nil _ _ _ _
  lR:=Nat.le_refl _
  lF:=by show _<=w.heap.size+1;omega
  lH:=by show _<=w2.heap.size;omega
  lT:=by show _<=T;omega
  lI:=by show _<=I;omega
  lA:=by show _<=A;omega
  low:=(behind ((((Below.refl _ w).alloc (Nat.le_refl _) _).alloc (by simp) _).trans (hlow.mono (by rw [z];omega))) K (by omega) (by rintro b (h | h) <;> omega)).alloc (by omega) _ }
end
end Go.Proofs.YtaanhmndeobgbaaGreatDoor.Lex
namespace Go.Proofs.YtaanhmndeobgbaaGreatDoor.Lex
def Ew (t:Tok):Prop:=∃ l,one l = .piece t.kind t.text.length t.num/\l.take t.text.length=t.text
theorem Mi {c:UInt8} (h:yE c=true):c=32 \/ c=9 \/ c=10:=by
 unfold yE at h;simp only [Bool.or_eq_true,beq_iff_eq] at h
 rcases h with (h | h) | h
 ·exact .inl h
 ·exact .inr (.inl h)
 ·exact .inr (.inr h)
theorem Ey (c:UInt8) (r:List UInt8):one (c :: r) =
  if yE c then .skip 1
  else if c == 35 then .skip ((c :: r).takeWhile LM).length
  else if iO c then
   if num ((c :: r).takeWhile iO)<top then .piece 1 ((c :: r).takeWhile iO).length (num ((c :: r).takeWhile iO)) else .bad 4
  else if jA c then .piece 2 ((c :: r).takeWhile cO).length 0
  else if Cs c then
   if grows c && r.head? == some 61 then .piece 3 2 0 else .piece 3 1 0
  else .bad 3:=rfl
theorem Gq:∀ (f:Nat) (l:List UInt8) (p:Nat × Nat) (ts:List Tok),l.length<f->o9 f l p = .ok ts->∃ body e,ts=body ++ [e]/\e.kind=0/\e.text=[]/\e.num=0/\∀ t ∈ body,Ew t:=by
 intro f;induction f with
 | zero=>intro l p ts h;omega
 | succ f ih =>
  intro l p ts hl h;rw [o9] at h;cases ho:one l with
  | fin=>rw [ho] at h;cases h;exact ⟨[],_,rfl,rfl,rfl,rfl,by simp⟩
  | bad e=>rw [ho] at h;cases h
  | skip n =>
   rw [ho] at h;cases l with
   | nil=>cases ho
   | cons a m =>
    have:=lC a m;rw [ho] at this;simp only [Step.len] at this;exact ih _ _ _ (by simp only [List.length_drop,List.length_cons] at *;omega) h
  | piece k n v =>
   rw [ho] at h;simp only at h
   cases l with
   | nil=>cases ho
   | cons a m =>
    have hn:=lC a m;rw [ho] at hn;simp only [Step.len] at hn;cases hx:o9 f ((a :: m).drop n) (Gj p ((a :: m).take n)) with
    | err e x y=>rw [hx] at h;cases h
    | ok ts' =>
     rw [hx] at h;obtain ⟨body,e,rfl,e1,e2,e3,hb⟩:=ih _ _ _ (by simp only [List.length_drop,List.length_cons] at *;omega) hx;cases h
     have hlen:((a :: m).take n).length=n:=by simp only [List.length_take];omega
     refine ⟨⟨k,(a :: m).take n,v,p.1,p.2⟩ :: body,e,rfl,e1,e2,e3,?_⟩;intro t ht;rcases List.mem_cons.1 ht with rfl | ht
     ·exact ⟨a :: m,by rw [hlen];exact ho,by rw [hlen]⟩
     ·exact hb t ht
theorem Gr:∀ (f:Nat) (l:List UInt8) (p:Nat × Nat) (ts:List Tok),o9 f l p = .ok ts->ts.length<=l.length+1:=by
 intro f;induction f with
 | zero=>intro l p ts h;cases h;simp
 | succ f ih =>
  intro l p ts h;rw [o9] at h;cases ho:one l with
  | fin=>rw [ho] at h;cases h;simp
  | bad e=>rw [ho] at h;cases h
  | skip n =>
   rw [ho] at h;have:=ih _ _ _ h;rw [List.length_drop] at this;omega
  | piece k n v =>
   rw [ho] at h;simp only at h
   cases l with
   | nil=>cases ho
   | cons a m =>
    have hn:=lC a m;rw [ho] at hn;simp only [Step.len] at hn;cases hx:o9 f ((a :: m).drop n) (Gj p ((a :: m).take n)) with
    | err e x y=>rw [hx] at h;cases h
    | ok ts' =>
     rw [hx] at h;have:=ih _ _ _ hx;cases h
     rw [List.length_drop] at this;simp only [List.singleton_append,List.length_cons] at *
     omega
end Go.Proofs.YtaanhmndeobgbaaGreatDoor.Lex
