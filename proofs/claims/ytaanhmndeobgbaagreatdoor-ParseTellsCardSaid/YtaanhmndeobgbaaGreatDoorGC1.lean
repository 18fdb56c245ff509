/- Part 22 of the proof: what is used of the texts PrsK, PrsL, PrsM, PrsN, PrsO, PrsP. -/
import Derived.Test.YtaanhmndeobgbaaGreatDoorGB6
import Derived.Test.YtaanhmndeobgbaaGreatDoorGA1
import Derived.Test.YtaanhmndeobgbaaGreatDoorGC0
namespace Go.Proofs.YtaanhmndeobgbaaGreatDoor.fT
open Go.Proofs.YtaanhmndeobgbaaGreatDoor.Expr Prog
open Lex (Tok)
section
variable {ask : Bool} {ts : List Lex.Tok}
def Splits (ts:List Lex.Tok) (ask:Bool) (o n:Nat) (sQ out:Out Ex):Prop:=(∃ j er,sQ = .bad j er/\out = .bad j er) \/ ∃ e1 k1,sQ = .ok e1 k1/\Px ts ask (.loop o n e1) k1 out/\ai (iH ts k1)<=n
theorem Hf {g:Gl} {k:Nat} {out:Out Ex} (h:Px ts ask g k out):∀ o n e,g = .loop o n e->∃ sQ,Px ts ask (.loop o (n+1) e) k sQ/\Splits ts ask o n sQ out:=by
 induction h with
 | stop h1 =>
  rintro o n e ⟨⟩;exact ⟨_,.stop (by omega),.inr ⟨_,_,rfl,.stop h1,by omega⟩⟩
 | @go o' least k k2 e' r out h1 h2 h3 ih2 ih3 =>
  rintro o n e ⟨⟩;by_cases hs:least+1<=ai (iH ts k)
  ·obtain ⟨sQ,hx,hs1⟩:=ih3 _ _ _ rfl
   exact ⟨sQ,.go hs h2 hx,hs1⟩
  ·exact ⟨_,.stop (by omega),.inr ⟨_,_,rfl,.go h1 h2 h3,by omega⟩⟩
 | @oO o' least k j er e' h1 h2 ih =>
  rintro o n e ⟨⟩;by_cases hs:least+1<=ai (iH ts k)
  ·exact ⟨_,.oO hs h2,.inl ⟨_,_,rfl,rfl⟩⟩
  ·exact ⟨_,.stop (by omega),.inr ⟨_,_,rfl,.oO h1 h2,by omega⟩⟩
 | _=>rintro o n e ⟨⟩
theorem KH {o n k:Nat} {out:Out Ex} (h:Px ts ask (.ops o n) k out):∃ sQ,Px ts ask (.ops o (n+1)) k sQ/\Splits ts ask o n sQ out:=by
 rcases Db h with ⟨e,k1,h1,h2⟩ | ⟨j,er,h1,rfl⟩
 ·obtain ⟨sQ,hx,hs⟩:=Hf h2 _ _ _ rfl
  exact ⟨sQ,.first h1 hx,hs⟩
 ·exact ⟨_,.jU h1,.inl ⟨_,_,rfl,rfl⟩⟩
theorem Nt {g:Gl} {k:Nat} {out:Out Ex} (h:Px ts ask g k out):∀ o n e e' k',g = .loop o n e->out = .ok e' k' -> ai (iH ts k')<n:=by
 induction h with
 | stop h1=>rintro o n e e' k' ⟨⟩ ⟨⟩;exact h1
 | go _ _ _ _ ih3=>rintro o n e e' k' ⟨⟩ hk;exact ih3 _ _ _ _ _ rfl hk
 | oO _ _ _=>rintro o n e e' k' ⟨⟩ ⟨⟩
 | _=>rintro o n e e' k' ⟨⟩
theorem QH {o n k k':Nat} {e':Ex} (h:Px ts ask (.ops o n) k (.ok e' k')):ai (iH ts k')<n:=by
 rcases Db h with ⟨e,k1,h1,h2⟩ | ⟨j,er,h1,h2⟩
 ·exact Nt h2 _ _ _ _ _ rfl rfl
 ·cases h2
theorem mR {n:Nat} {s:List UInt8} (h:mE n s≠0):sides (mE n s)=n/\sign (mE n s)=s:=by
 unfold mE at h ⊢;cases hf:List.find? (fun op=>decide (sides op=n) && decide (sign op=s)) [1,2,3,4,5,6,7,8,9,10,11,12,13,14] with
 | none=>rw [hf] at h;exact absurd rfl h
 | some a =>
  have:=List.find?_some hf;simpa using this
theorem zD (k:Nat):ai (iH ts k)<=3:=by
 by_cases h:iH ts k=0
 ·rw [h];decide
 ·have h2:=jB.1 (mR h).1
  unfold iH at h2 ⊢;unfold ai
  (repeat' split) <;> omega
theorem Nu {o k:Nat} {out:Out Ex} (h:Px ts ask (.ops o 4) k out):Px ts ask (.part o) k out:=by
 rcases Db h with ⟨e,k1,h1,h2⟩ | ⟨j,er,h1,rfl⟩
 ·rcases Da h2 with ⟨_,rfl⟩ | ⟨hs,_⟩ | ⟨hs,_⟩
  ·exact h1
  ·exact absurd hs (by have:=zD (ts:=ts) k1;omega)
  ·exact absurd hs (by have:=zD (ts:=ts) k1;omega)
 ·exact h1
end
end Go.Proofs.YtaanhmndeobgbaaGreatDoor.fT
namespace Go.Proofs.YtaanhmndeobgbaaGreatDoor.fT
open Go.Proofs.YtaanhmndeobgbaaGreatDoor.Expr Prog
open Lex (Tok lex yE iO jA cO Cs LM grows)
structure Raw where
 kind:Nat
 text:List UInt8
 num:Nat
deriving DecidableEq
def raw (t:Lex.Tok):Raw:=⟨t.kind,t.text,t.num⟩
def sg (s:List UInt8):Raw:=⟨3,s,0⟩
def wd (s:List UInt8):Raw:=⟨2,s,0⟩
def nm (n:Nat):Raw:=⟨1,dec n,n⟩
theorem Dq {c:UInt8} (h:jA c=true):yE c=false/\(c == 35)=false/\iO c=false:=by
 unfold jA at h;simp only [Bool.and_eq_true,decide_eq_true_eq] at h
 refine ⟨?_,?_,?_⟩
 ·cases hb:yE c with
  | false=>rfl
  | true=>rcases Lex.Mi hb with rfl | rfl | rfl <;> exact absurd h.1 (by decide)
 ·rw [beq_eq_false_iff_ne];rintro rfl;exact absurd h.1 (by decide)
 ·unfold iO;simp only [Bool.and_eq_false_iff,decide_eq_false_iff_not];omega
theorem Fx {m:Mk} (h:m.proper):1<=m.kind/\m.kind<=9:=by
 obtain ⟨kind,reg,mode,loc,a,b⟩:=m;obtain ⟨_,_,h⟩:=h;simp only at h ⊢
 match kind,h with
 | 0,h=>exact h.elim
 | n+10,h=>exact h.elim
 | 1,_ | 2,_ | 3,_ | 4,_ | 5,_ | 6,_ | 7,_ | 8,_ | 9,_=>omega
end Go.Proofs.YtaanhmndeobgbaaGreatDoor.fT
namespace Go.Proofs.YtaanhmndeobgbaaGreatDoor.fT
open Go.Proofs.YtaanhmndeobgbaaGreatDoor.Expr Prog
open Lex (Tok jA cO iO)
def At (ts:List Lex.Tok) (k:Nat) (rs:List Raw):Prop:=∀ i r,rs[i]? = some r->raw (tk ts (k+i))=r
section
variable {ts : List Lex.Tok} {ask : Bool} {k : Nat} {rs r2 : List Raw}
theorem sw {i:Nat} (h:i<8):dec i=[(48+i).toUInt8]:=by
 obtain rfl | rfl | rfl | rfl | rfl | rfl | rfl | rfl:i=0 \/ i=1 \/ i=2 \/ i=3 \/ i=4 \/ i=5 \/ i=6 \/ i=7:=by omega
 all_goals simp [dec,Lib.decDigits]
def BJ (ask:Bool):Ex->Prop
 | .num _=>True
 | .reg _=>ask=false
 | .of _ _=>ask=true
 | .loc _=>ask=true
 | .one _ a=>BJ ask a
 | .two _ a b=>BJ ask a/\BJ ask b
end
section
variable {ts : List Lex.Tok} {ask : Bool} {k : Nat} {rs r2 : List Raw}
def p8 (ask:Bool):Option Ex->Prop
 | none=>True
 | some e=>BJ ask e
structure Plain (m:Mk):Prop where
 a:p8 false m.a
 b:p8 false m.b
 loc:m.loc≠114
 reg:m.reg<8
def um:az->Prop
 | .nil=>True
 | .cons m t e r=>Plain m/\um t/\um e/\um r
structure Prints (t:Ts):Prop where
 proper:t.proper
 init:∀ i ∈ t.init,i.1≠114/\i.2<18446744073709551616
 threads:∀ b ∈ t.threads,um b
 few:t.threads.length<=4
 ask:p8 true t.ask
end
end Go.Proofs.YtaanhmndeobgbaaGreatDoor.fT
namespace Go.Proofs.YtaanhmndeobgbaaGreatDoor.fT
open Go.Proofs.YtaanhmndeobgbaaGreatDoor.Expr Prog
open Lex (Tok jA cO iO Cs)
structure gM (ts:List Lex.Tok):Prop where
 good:Good ts
 low:∀ j,au ts j<=3
 fin:∀ j,au ts j=0->aj ts j=[]
 digit:∀ j,au ts j=1->∃ c r,aj ts j=c :: r/\iO c=true
 word:∀ j,au ts j=2->∃ c r,aj ts j=c :: r/\jA c=true
 sign:∀ j,au ts j=3->∃ c r,aj ts j=c :: r/\cO c=false
 some:0<ts.length
 few:ts.length<=4097
theorem kI {t:Lex.Tok} (h:Lex.Ew t):t.num<18446744073709551616/\((t.kind=1/\∃ c r,t.text=c :: r/\iO c=true) \/ (t.kind=2/\∃ c r,t.text=c :: r/\jA c=true) \/ (t.kind=3/\∃ c r,t.text=c :: r/\cO c=false)):=by
 obtain ⟨l,h,ht⟩:=h;obtain ⟨kind,text,nu,line,xy⟩:=t;simp only at h ht ⊢
 have hd:∀ {n:Nat} {c:UInt8} {m:List UInt8},(c :: m).take n=text->n≠0->∃ r,text=c :: r:=fun {n c m} h hn=>by
  cases n with
  | zero=>exact absurd rfl hn
  | succ n=>exact ⟨m.take n,by rw [<- h];rfl⟩
 have hp:text.length≠0:=by
  cases l with
  | nil=>cases h
  | cons a m =>
   have:=Lex.lC a m;rw [h] at this;simp only [Lex.Step.len] at this
   omega
 cases l with
 | nil=>cases h
 | cons a m =>
  obtain ⟨r,hr⟩:=hd ht hp;rw [Lex.Ey] at h;by_cases h1:Lex.yE a=true
  ·rw [if_pos h1] at h;cases h
  rw [if_neg h1] at h;by_cases h2:(a == 35)=true
  ·rw [if_pos h2] at h;cases h
  rw [if_neg h2] at h;by_cases h3:iO a=true
  ·rw [if_pos h3] at h
   by_cases h4:Lex.num ((a :: m).takeWhile iO)<Lex.top
   ·rw [if_pos h4] at h
    injection h with e1 e2 e3;exact ⟨by rw [<- e3];exact h4,.inl ⟨e1.symm,a,r,hr,h3⟩⟩
   ·rw [if_neg h4] at h;cases h
  rw [if_neg h3] at h;by_cases h5:jA a=true
  ·rw [if_pos h5] at h
   injection h with e1 e2 e3;exact ⟨by omega,.inr (.inl ⟨e1.symm,a,r,hr,h5⟩)⟩
  rw [if_neg h5] at h;by_cases h6:Cs a=true
  ·rw [if_pos h6] at h
   have hld:cO a=false:=by
    unfold Lex.cO;rw [Bool.or_eq_false_iff];exact ⟨by simpa using h5,by simpa using h3⟩
   split at h
   all_goals
    injection h with e1 e2 e3;exact ⟨by omega,.inr (.inr ⟨e1.symm,a,r,hr,hld⟩)⟩
  ·rw [if_neg h6] at h;cases h
theorem Ud {ts:List Lex.Tok} {j:Nat} (h:¬ j<ts.length):tk ts j=⟨0,[],0,0,0⟩:=by
 unfold tk;rw [List.getD_eq_getElem?_getD,List.getElem?_eq_none (by omega)];rfl
theorem zF {l:List UInt8} {ts:List Lex.Tok} (h:Lex.fq l = .ok ts):gM ts:=by
 unfold Lex.fq at h;by_cases hl:l.length<=4096
 ·rw [if_pos hl] at h
  obtain ⟨body,e,rfl,e1,e2,e3,hb⟩:=Lex.Gq _ _ _ _ (Nat.lt_succ_self _) h;have hc:=Lex.Gr _ _ _ _ h;have hlen:(body ++ [e]).length=body.length+1:=by simp
  have inb:∀ j,j<body.length->Lex.Ew (tk (body ++ [e]) j):=fun j hj=>by
   unfold tk;rw [List.getD_eq_getElem?_getD,List.getElem?_append_left hj,List.getElem?_eq_getElem hj];exact hb _ (List.getElem_mem hj)
  have last:tk (body ++ [e]) body.length=e:=by
   unfold tk;rw [List.getD_eq_getElem?_getD,List.getElem?_append_right (Nat.le_refl _),Nat.sub_self];rfl
  have all:∀ j,(j<body.length/\Lex.Ew (tk (body ++ [e]) j)) \/ (au (body ++ [e]) j=0/\aj (body ++ [e]) j=[]/\aT (body ++ [e]) j=0):=fun j=>by
   by_cases h1:j<body.length
   ·exact .inl ⟨h1,inb j h1⟩
   ·refine .inr ?_
    by_cases h2:j=body.length
    ·subst h2
     unfold au aj aT;rw [last];exact ⟨e1,e2,e3⟩
    ·unfold au aj aT
     rw [Ud (by omega)];exact ⟨rfl,rfl,rfl⟩
  have kinds:∀ j,au (body ++ [e]) j≠0->j<body.length/\Lex.Ew (tk (body ++ [e]) j):=fun j hj=>(all j).resolve_right fun h=>hj h.1
  have fin:∀ j,au (body ++ [e]) j=0->aj (body ++ [e]) j=[]:=fun j hj=>by
   rcases all j with ⟨_,h⟩ | h
   ·rcases (kI h).2 with ⟨h,_⟩ | ⟨h,_⟩ | ⟨h,_⟩ <;> exact absurd hj (by unfold au;omega)
   ·exact h.2.1
  have low:∀ j,au (body ++ [e]) j<=3:=fun j=>by
   rcases all j with ⟨_,h⟩ | h
   ·unfold au
    rcases (kI h).2 with ⟨h,_⟩ | ⟨h,_⟩ | ⟨h,_⟩ <;> omega
   ·omega
  refine ⟨⟨fun j hj hk=>by have:=(kinds j hk).1;omega,fun j _=>fin j,fun j=>?_,fun j=>by have:=low j;omega⟩,low,fin,fun j hj=>?_,fun j hj=>?_,fun j hj=>?_,by omega,by omega⟩
  ·rcases all j with ⟨_,h⟩ | h
   ·exact (kI h).1
   ·rw [h.2.2];decide
  ·have hj':(tk (body ++ [e]) j).kind=1:=hj
   rcases (kI (kinds j (by omega)).2).2 with ⟨_,h⟩ | ⟨h,_⟩ | ⟨h,_⟩
   ·exact h
   all_goals omega
  ·have hj':(tk (body ++ [e]) j).kind=2:=hj
   rcases (kI (kinds j (by omega)).2).2 with ⟨h,_⟩ | ⟨_,h⟩ | ⟨h,_⟩
   ·omega
   ·exact h
   ·omega
  ·have hj':(tk (body ++ [e]) j).kind=3:=hj
   rcases (kI (kinds j (by omega)).2).2 with ⟨h,_⟩ | ⟨h,_⟩ | ⟨_,h⟩
   ·omega
   ·omega
   ·exact h
 ·rw [if_neg hl] at h;cases h
section
variable {ts : List Lex.Tok} {ask : Bool} {k k' : Nat}
theorem Dr {α:Type} {f:List UInt8->Option α} {a:α} (h:jF ts f k = .ok a k'):au ts k=2/\f (aj ts k)=some a/\k' = k+1:=by
 unfold jF at h
 split at h
 ·rename_i hq
  split at h
  ·rename_i x hx
   injection h with h1 h2;subst h1;exact ⟨hq,hx,h2.symm⟩
  ·cases h
 ·cases h
theorem Hg {i:Nat} (h:gy ts k = .ok i k'):i<8/\k' = k+1:=by
 obtain ⟨_,hf,hk⟩:=Dr h;refine ⟨?_,hk⟩;unfold iy at hf
 split at hf
 ·split at hf
  ·injection hf with hf;omega
  ·cases hf
 ·cases hf
theorem Hl (hp:gM ts) {x:Nat} (h:jo ts k = .ok x k'):fV x/\x≠114/\k' = k+1:=by
 obtain ⟨hq,hf,hk⟩:=Dr h;obtain ⟨c,hs,hc,rfl⟩:=ze hf;obtain ⟨c',r,hs',hl⟩:=hp.word k hq;rw [hs] at hs';injection hs' with e _;subst e;unfold Lex.jA at hl;simp only [Bool.and_eq_true,decide_eq_true_eq] at hl
 exact ⟨hl,fun e=>hc (UInt8.toNat_inj.1 e),hk⟩
theorem lW {s:List UInt8} {u:Unit} (h:ak ts s k = .ok u k'):aj ts k=s/\k' = k+1:=by
 unfold ak at h
 split at h
 ·rename_i hc;injection h with _ h;exact ⟨hc,h.symm⟩
 ·cases h
theorem aJ {α β:Type} {o:Out α} {f:α->Nat->Out β} {b:β} (h:o.bind f = .ok b k'):∃ a k1,o = .ok a k1/\f a k1 = .ok b k':=by
 cases o with
 | ok a k1=>exact ⟨a,k1,rfl,h⟩
 | bad j e=>cases h
theorem QI (hp:gM ts) {e:Ex} (h:fo ts ask k = .ok e k'):e.ok/\BJ ask e:=by
 unfold fo at h;cases ask with
 | true =>
  rw [if_pos rfl] at h
  split at h
  ·split at h
   ·split at h
    ·rename_i hn
     obtain ⟨i,hi,rfl⟩:=map_ok h;exact ⟨⟨hn,(Hg hi).1⟩,rfl⟩
    ·cases h
   ·injection h with h _;subst h;exact ⟨hp.good.num k,trivial⟩
  ·obtain ⟨x,hx,rfl⟩:=map_ok h
   obtain ⟨h1,h2,_⟩:=Hl hp hx;exact ⟨⟨h1.1,h1.2,h2⟩,rfl⟩
 | false =>
  rw [if_neg (by decide)] at h
  split at h
  ·injection h with h _;subst h;exact ⟨hp.good.num k,trivial⟩
  ·obtain ⟨i,hi,rfl⟩:=map_ok h
   exact ⟨(Hg hi).1,rfl⟩
def okE (ask:Bool) (e:Ex):Prop:=e.ok/\BJ ask e
def Gl.Ed (ask:Bool):Gl->Prop
 | .loop _ least e=>1<=least/\okE ask e
 | .ops _ least=>1<=least
 | .part _=>True
theorem Nv (h:qw ts k≠0):qw ts k=13 \/ qw ts k=14:=oJ.1 (mR h).1
theorem Nw (h:iH ts k≠0):1<=iH ts k/\iH ts k<=12:=jB.1 (mR h).1
theorem Sq (hp:gM ts) {g:Gl} {out:Out Ex} (h:Px ts ask g k out):g.Ed ask->∀ e k1,out = .ok e k1->okE ask e:=by
 induction h with
 | leaf _ _=>intro _ e k1 h;exact QI hp h
 | deep _ _=>intro _ e k1 h;cases h
 | sign h1 _ _ ih =>
  intro _ e k1 h;obtain ⟨a,h',rfl⟩:=map_ok h;have:=ih trivial _ _ h';exact ⟨⟨Nv h1,this.1⟩,this.2⟩
 | paren _ _ _ _ ih =>
  intro _ e k1 h;obtain ⟨k0,h2,_⟩:=vk h;exact ih (Nat.le_refl 1) _ _ h2
 | first _ _ ih1 ih2=>intro hg e k1 h;exact ih2 ⟨hg,ih1 trivial _ _ rfl⟩ _ _ h
 | jU _ _=>intro _ e k1 h;cases h
 | stop _=>intro hg e k1 h;injection h with h _;subst h;exact hg.2
 | @go o least k k2 e r out h1 _ _ ih1 ih2 =>
  intro hg e' k1 h;have hg1:1<=least:=hg.1;have h0:iH ts k≠0:=jV (by omega);have hr:=ih1 (show 1<=ai (iH ts k)+1 by omega) _ _ rfl;have:=Nw h0;exact ih2 ⟨hg1,⟨this.1,this.2,hg.2.1,hr.1⟩,hg.2.2,hr.2⟩ _ _ h
 | oO _ _ _=>intro _ e k1 h;cases h
theorem vD (hp:gM ts) {e:Ex} (hk:k<ts.length) (h:bG ts ask k = .ok e k'):okO (some e)/\p8 ask (some e)/\k<k':=by
 obtain ⟨out,hx,_⟩:=(vo (ask:=ask) hp.good (ts.length - k) k (Nat.le_refl _) hk).2 0 1 (by omega) (by omega);rw [mF hx] at h;cases out with
 | bad j er=>cases h
 | ok e1 k1 =>
  have h:(if 12<e1.depth then Out.bad k 4 else Out.ok e1 k1) = .ok e k':=h
  split at h
  ·cases h
  ·rename_i hd
   injection h with h1 h2;subst h1 h2;have:=Sq hp hx (Nat.le_refl 1) _ _ rfl;exact ⟨⟨this.1,by omega⟩,this.2,hx.grows _ _ rfl⟩
theorem QJ {kind m:Nat} (h:jc ts kind k = .ok m k'):m ∈ ui kind/\k' = k+1:=by
 obtain ⟨_,hf,hk⟩:=Dr h;exact ⟨List.mem_of_find?_eq_some hf,hk⟩
theorem Ny {kind m:Nat} (h:m ∈ ui kind):(kind=2/\(m=1 \/ m=2 \/ m=3)) \/ (kind=3/\(m=1 \/ m=2 \/ m=4)) \/ ((kind=4 \/ kind=5 \/ kind=6)/\(m=2 \/ m=3 \/ m=4 \/ m=5)) \/ (kind=7/\(m=3 \/ m=4 \/ m=5 \/ m=6)):=by
 unfold ui at h
 split at h
 ·rename_i h2;exact .inl ⟨h2,by simpa using h⟩
 split at h
 ·rename_i h2;exact .inr (.inl ⟨h2,by simpa using h⟩)
 split at h
 ·rename_i h2;exact .inr (.inr (.inl ⟨h2,by simpa using h⟩))
 split at h
 ·rename_i h2;exact .inr (.inr (.inr ⟨h2,by simpa using h⟩))
 ·cases h
theorem Dt (hp:gM ts) {kind r:Nat} (hr:r<8) (h0:kind=3 \/ kind=7->r=0) (hk:k<ts.length) {m:Mk} (h:bJ ts kind r k = .ok m k'):m.proper/\Plain m/\m.kind=kind/\k<k':=by
 have uo:∀ {s:List UInt8} {k k1:Nat} {u:Unit},s ≠ []->k<ts.length->ak ts s k = .ok u k1->k1=k+1/\k1<ts.length:=fun hs hk h=>⟨(lW h).2,((fU (lo:=0) hp.good hs hk (Nat.zero_le _)) _ _ h).2⟩
 unfold bJ at h;obtain ⟨_,k1,h1,h⟩:=aJ h;obtain ⟨rfl,l1⟩:=uo (by simp) hk h1;obtain ⟨x,k2,h2,h⟩:=aJ h;obtain ⟨a,k3,h3,h⟩:=aJ h;obtain ⟨b,k4,h4,h⟩:=aJ h;obtain ⟨md,k5,h5,h⟩:=aJ h;obtain ⟨_,k6,h6,h⟩:=aJ h;obtain ⟨_,h7,rfl⟩:=map_ok h;have hx:k+1<=k2/\k2<ts.length/\(kind=7->x=0)/\(kind≠7->fV x)/\x≠114:=by
  by_cases h7:kind=7
  ·rw [if_pos h7] at h2
   injection h2 with e1 e2;subst e1 e2;exact ⟨Nat.le_refl _,l1,fun _=>rfl,fun h=>absurd h7 h,by decide⟩
  ·rw [if_neg h7] at h2
   obtain ⟨x',k8,h8,h2⟩:=aJ h2;obtain ⟨_,h9,rfl⟩:=map_ok h2;obtain ⟨i1,i2,i3⟩:=Hl hp h8;have l8:=(pW (lo:=0) hp.good l1 (Nat.zero_le _) _ _ h8).2;obtain ⟨rfl,l9⟩:=uo (by simp) l8 h9;exact ⟨by omega,l9,fun h=>absurd h h7,fun _=>i1,i2⟩
 obtain ⟨g2,l2,x1,x2,x3⟩:=hx;have exo:∀ {k k1:Nat} {a:Option Ex},k<ts.length->((bG ts false k).bind fun a k=>(ak ts [44] k).map fun _=>some a) = .ok a k1->k<k1/\k1<ts.length/\okO a/\p8 false a/\a.isSome=true:=fun {k k1 a} hk h=>by
  obtain ⟨e,k8,h8,h⟩:=aJ h;obtain ⟨_,h9,rfl⟩:=map_ok h;obtain ⟨i1,i2,i3⟩:=vD hp hk h8;have l8:=((vv (lo:=0) hp.good false hk (Nat.zero_le _)) _ _ h8).2;obtain ⟨rfl,l9⟩:=uo (by simp) l8 h9;exact ⟨by omega,l9,i1,i2,rfl⟩
 have ha:k2<=k3/\k3<ts.length/\okO a/\p8 false a/\((kind=7 \/ kind=2)->a=none)/\(¬ (kind=7 \/ kind=2)->a.isSome=true):=by
  by_cases h7:kind=7 \/ kind=2
  ·rw [if_pos h7] at h3
   injection h3 with e1 e2;subst e1 e2;exact ⟨Nat.le_refl _,l2,trivial,trivial,fun _=>rfl,fun h=>absurd h7 h⟩
  ·rw [if_neg h7] at h3
   obtain ⟨i1,i2,i3,i4,i5⟩:=exo l2 h3;exact ⟨by omega,i2,i3,i4,fun h=>absurd h h7,fun _=>i5⟩
 obtain ⟨g3,l3,a1,a2,a3,a4⟩:=ha;have hb:k3<=k4/\k4<ts.length/\okO b/\p8 false b/\(kind≠6->b=none)/\(kind=6->b.isSome=true):=by
  by_cases h7:kind=6
  ·rw [if_pos h7] at h4
   obtain ⟨i1,i2,i3,i4,i5⟩:=exo l3 h4;exact ⟨by omega,i2,i3,i4,fun h=>absurd h7 h,fun _=>i5⟩
  ·rw [if_neg h7] at h4
   injection h4 with e1 e2;subst e1 e2;exact ⟨Nat.le_refl _,l3,trivial,trivial,fun _=>rfl,fun h=>absurd h h7⟩
 obtain ⟨g4,l4,b1,b2,b3,b4⟩:=hb;obtain ⟨m1,rfl⟩:=QJ h5;have l5:=(pW (lo:=0) hp.good l4 (Nat.zero_le _) _ _ h5).2;obtain ⟨rfl,l6⟩:=uo (by simp) l5 h6;obtain ⟨rfl,l7⟩:=uo (by simp) l6 h7;refine ⟨⟨a1,b1,?_⟩,⟨a2,b2,x3,hr⟩,rfl,by omega⟩;rcases Ny m1 with ⟨rfl,hm⟩ | ⟨rfl,hm⟩ | ⟨rfl | rfl | rfl,hm⟩ | ⟨rfl,hm⟩
 ·exact ⟨hm,x2 (by decide),a3 (.inr rfl),b3 (by decide)⟩
 ·exact ⟨hm,x2 (by decide),h0 (.inl rfl),a4 (by decide),b3 (by decide)⟩
 ·exact ⟨hm,x2 (by decide),a4 (by decide),b3 (by decide)⟩
 ·exact ⟨hm,x2 (by decide),a4 (by decide),b3 (by decide)⟩
 ·exact ⟨hm,x2 (by decide),a4 (by decide),b4 rfl⟩
 ·exact ⟨hm,x1 rfl,h0 (.inr rfl),a3 (.inl rfl),b3 (by decide)⟩
theorem QK (hp:gM ts) (hk:k<ts.length) {m:Mk} (h:bH ts k = .ok m k'):m.proper/\Plain m/\m.kind<=7/\k<k':=by
 have hm:∀ {s:List UInt8} {k:Nat},s ≠ []->k<ts.length->aj ts k=s->k+1<ts.length:=fun hs hk hc=>hp.good.more _ hk fun h0=>hs (by rw [<- hc,hp.fin _ h0])
 unfold bH at h
 split at h
 ·rename_i hc
  obtain ⟨h1,h2,h3,h4⟩:=Dt hp (by omega) (fun _=>rfl) (hm (by decide) hk hc) h;exact ⟨h1,h2,by omega,by omega⟩
 split at h
 ·rename_i hc
  obtain ⟨h1,h2,h3,h4⟩:=Dt hp (by omega) (fun _=>rfl) (hm (by decide) hk hc) h;exact ⟨h1,h2,by omega,by omega⟩
 obtain ⟨r,k1,h1,h⟩:=aJ h;obtain ⟨hr,rfl⟩:=Hg h1;have l1:=(pW (lo:=0) hp.good hk (Nat.zero_le _) _ _ h1).2;obtain ⟨_,k2,h2,h⟩:=aJ h;have e2:=(lW h2).2;have l2:=(fU (lo:=0) hp.good (by simp) l1 (Nat.zero_le _) _ _ h2).2;have Yn:∀ {kind k1:Nat},kind≠3/\kind≠7/\kind<=7->k<k1->k1<ts.length->bJ ts kind r k1 = .ok m k' -> m.proper/\Plain m/\m.kind<=7/\k<k':=fun hn hl hk1 h=>by
  obtain ⟨h1,h2,h3,h4⟩:=Dt hp hr (fun h=>by omega) hk1 h;exact ⟨h1,h2,by omega,by omega⟩
 unfold qD at h
 split at h
 ·rename_i hc;exact Yn (by omega) (by omega) (hm (by decide) l2 hc) h
 split at h
 ·rename_i hc;exact Yn (by omega) (by omega) (hm (by decide) l2 hc) h
 split at h
 ·rename_i hc;exact Yn (by omega) (by omega) (hm (by decide) l2 hc) h
 split at h
 ·rename_i hc;exact Yn (by omega) (by omega) (hm (by decide) l2 hc) h
 obtain ⟨a,k3,h3,h⟩:=aJ h;obtain ⟨_,h4,rfl⟩:=map_ok h;obtain ⟨i1,i2,i3⟩:=vD hp l2 h3;have e4:=(lW h4).2;exact ⟨⟨i1,trivial,rfl,rfl,rfl,rfl⟩,⟨i2,trivial,(by show (0:Nat)≠114;decide),hr⟩,(by show (1:Nat)<=7;decide),by omega⟩
theorem vE (hp:gM ts) (hk:k<ts.length) {a:Ex} (h:iA ts k = .ok a k'):okO (some a)/\p8 false (some a)/\k<k' /\ k' < ts.length:=by
 have l0:=((vz (lo:=0) hp.good hk (Nat.zero_le _)) _ _ h).2;unfold iA at h;obtain ⟨_,k1,h1,h⟩:=aJ h;have e1:=(lW h1).2;have l1:=(fU (lo:=0) hp.good (by simp) hk (Nat.zero_le _) _ _ h1).2;obtain ⟨e,k2,h2,h⟩:=aJ h;obtain ⟨_,h3,rfl⟩:=map_ok h;have e3:=(lW h3).2;obtain ⟨i1,i2,i3⟩:=vD hp l1 h2;exact ⟨i1,i2,by omega,l0⟩
def may (d:Nat) (b:az):Prop:=b.proper/\um b/\d+b.deep<=9
def Gb.Ed:Gb->Prop
 | .block _=>True
 | .more d q=>may d q
 | .stmt d=>d<=8
def Gb.okO:Gb->Nat->Nat->az->Prop
 | .block d,k,k',b=>may d b/\b.size+k<k'
 | .more d q,k,k',b=>may d b/\b.size+k<q.size+k'
 | .stmt d,k,k',b=>may d b/\b.size+k<=k' /\ b.len=1
theorem az.KI (q:az) (m:Mk) (t e:az):(q.snoc m t e).size=q.size+(t.size+e.size+1):=by
 induction q with
 | nil=>simp [az.snoc,az.size]
 | cons m' t' e' r _ _ ih=>simp only [az.snoc,az.size,ih];omega
theorem Nz {d:Nat} {q t e:az} {m:Mk} (hq:may d q) (h:may d (.cons m t e .nil)):may d (q.snoc m t e):=by
 induction q with
 | nil=>exact h
 | cons m' t' e' r _ _ ih =>
  obtain ⟨⟨h1,h2,h3,h4,h5,h6⟩,⟨y1,y2,y3,y4⟩,hd⟩:=hq;simp only [az.deep] at hd
  have hr:=ih ⟨h4,y4,by omega⟩;obtain ⟨p1,p2,p3⟩:=hr;exact ⟨⟨h1,h2,h3,p1,h5,h6⟩,⟨y1,y2,y3,p2⟩,by simp only [az.snoc,az.deep];omega⟩
theorem Ju (hp:gM ts) {g:Gb} {out:Out az} (h:Bx ts g k out):k<ts.length->g.Ed->∀ b k1,out = .ok b k1->k1<ts.length/\g.okO k k1 b:=by
 have hm:∀ {s:List UInt8} {k:Nat},s ≠ []->k<ts.length->aj ts k=s->k+1<ts.length:=fun hs hk hc=>hp.good.more _ hk fun h0=>hs (by rw [<- hc,hp.fin _ h0])
 induction h with
 | none _=>intro _ _ b k1 h;cases h
 | deep _ _=>intro _ _ b k1 h;cases h
 | block h1 h2 _ ih =>
  intro hk _ b k1 h;obtain ⟨l,h3,h4⟩:=ih (hm (by simp) hk h1) ⟨trivial,trivial,by simp only [az.deep];omega⟩ _ _ h;simp only [az.size] at h4
  exact ⟨l,h3,by omega⟩
 | close h1 =>
  intro hk hg b k1 h;injection h with e1 e2;subst e1 e2;exact ⟨hm (by simp) hk h1,hg,by omega⟩
 | @step d k k1 q t e m out h1 _ _ ih1 ih2 =>
  intro hk hg b k2 h;have hd:d<=8:=by have:=hg.2.2;have:=q.qW;omega
  obtain ⟨l1,hs1,hs2,hs3⟩:=ih1 hk hd _ _ rfl;obtain ⟨l2,h3,h4⟩:=ih2 l1 (Nz hg hs1) _ _ h;rw [az.KI] at h4;simp only [az.size] at hs2
  exact ⟨l2,h3,by omega⟩
 | nN _ _ _=>intro _ _ b k1 h;cases h
 | @flat d k h1 h2 =>
  intro hk hd b k1 h;obtain ⟨m,hf,rfl⟩:=map_ok h;obtain ⟨h3,h4,h5,h6⟩:=QK hp hk hf;have l1:=(Dh (lo:=0) hp.good hk (Nat.zero_le _) _ _ hf).2;have hd:d<=8:=hd;refine ⟨l1,⟨⟨h3,trivial,trivial,trivial,fun _=>rfl,fun _ _=>rfl⟩,⟨h4,trivial,trivial,trivial⟩,?_⟩,by simp only [az.size];omega,rfl⟩;simp only [az.deep]
  rw [if_neg (by omega),if_neg (by omega)];omega
 | gJ _ _=>intro _ _ b k1 h;cases h
 | gK _ _ _ _=>intro _ _ b k1 h;cases h
 | @loop d k k1 k2 a t h1 h2 _ ih =>
  intro hk _ b k3 h;injection h with e1 e2;subst e1 e2;have l0:=hm (by decide) hk h1;obtain ⟨c1,c2,c3,c4⟩:=vE hp l0 h2;obtain ⟨l1,h3,h4⟩:=ih c4 trivial _ _ rfl;refine ⟨l1,⟨⟨⟨c1,trivial,rfl,rfl,rfl,rfl,rfl⟩,h3.1,trivial,trivial,fun _=>rfl,fun _ h=>absurd rfl h⟩,⟨⟨c2,trivial,(by show (0:Nat)≠114;decide),(by show (0:Nat)<8;decide)⟩,h3.2.1,trivial,trivial⟩,?_⟩,by simp only [az.size];omega,rfl⟩;have:=h3.2.2;have:=t.qW;simp only [az.deep]
  rw [if_neg (by decide),if_pos (by decide)];omega
 | @cond d k k1 k2 a t h1 h2 _ _ ih =>
  intro hk _ b k3 h;injection h with e1 e2;subst e1 e2;have l0:=hm (by decide) hk h1;obtain ⟨c1,c2,c3,c4⟩:=vE hp l0 h2;obtain ⟨l1,h3,h4⟩:=ih c4 trivial _ _ rfl;refine ⟨l1,⟨⟨⟨c1,trivial,rfl,rfl,rfl,rfl,rfl⟩,h3.1,trivial,trivial,fun _=>rfl,fun h=>absurd rfl h⟩,⟨⟨c2,trivial,(by show (0:Nat)≠114;decide),(by show (0:Nat)<8;decide)⟩,h3.2.1,trivial,trivial⟩,?_⟩,by simp only [az.size];omega,rfl⟩;have:=h3.2.2;have:=t.qW;simp only [az.deep]
  rw [if_pos (by decide)];omega
 | @other d k k1 k2 a t out h1 h2 _ h5 _ ih ih2 =>
  intro hk _ b k3 h;obtain ⟨e,rfl,rfl⟩:=map_ok h;have l0:=hm (by decide) hk h1;obtain ⟨c1,c2,c3,c4⟩:=vE hp l0 h2;obtain ⟨l1,h3,h4⟩:=ih c4 trivial _ _ rfl;obtain ⟨l2,h6,h7⟩:=ih2 (hm (by decide) l1 h5) trivial _ _ rfl;refine ⟨l2,⟨⟨⟨c1,trivial,rfl,rfl,rfl,rfl,rfl⟩,h3.1,h6.1,trivial,fun h=>absurd rfl h,fun h=>absurd rfl h⟩,⟨⟨c2,trivial,(by show (0:Nat)≠114;decide),(by show (0:Nat)<8;decide)⟩,h3.2.1,h6.2.1,trivial⟩,?_⟩,by simp only [az.size];omega,rfl⟩;have:=h3.2.2;have:=h6.2.2;have:=t.qW;simp only [az.deep]
  rw [if_pos (by decide)];omega
theorem Jv (hp:gM ts) (hk:k<ts.length) {x:Nat × Nat} (h:dC ts k = .ok x k'):fV x.1/\x.1≠114/\x.2<18446744073709551616/\k' = k+4/\k' < ts.length:=by
 have l0:=(Di (lo:=0) hp.good hk (Nat.zero_le _) _ _ h).2;unfold dC at h;obtain ⟨a,k1,h1,h⟩:=aJ h;obtain ⟨i1,i2,e1⟩:=Hl hp h1;obtain ⟨_,k2,h2,h⟩:=aJ h;have e2:=(lW h2).2;obtain ⟨n,k3,h3,h⟩:=aJ h;obtain ⟨_,h4,rfl⟩:=map_ok h;have e4:=(lW h4).2
 split at h3
 ·injection h3 with e5 e6
  exact ⟨i1,i2,by rw [<- e5];exact hp.good.num _,by omega,l0⟩
 ·cases h3
theorem Ue (hp:gM ts) (hk:k<ts.length) {l:List (Nat × Nat)} {q:List az} {t:Ts} (h:uk ts l q k = .ok t k'):t.init=l/\t.threads=q/\t.ask.isSome=true/\okO t.ask/\p8 true t.ask:=by
 unfold uk at h
 split at h
 ·rename_i hq
  have l1:=hp.good.more k hk (by omega)
  split at h
  ·obtain ⟨a,k1,h1,h⟩:=aJ h
   obtain ⟨i1,i2,_⟩:=vD hp l1 h1;obtain ⟨_,k2,h2,h⟩:=aJ h
   split at h
   ·injection h with h _;subst h;exact ⟨rfl,rfl,rfl,i1,i2⟩
   ·cases h
  ·cases h
 ·cases h
def Gt.Ed (k:Nat):Gt->Prop
 | .inits l=>(∀ i ∈ l,fV i.1/\i.1≠114/\i.2<18446744073709551616)/\5 * l.length<=k
 | .threads l q=>((∀ i ∈ l,fV i.1/\i.1≠114/\i.2<18446744073709551616)/\l.length<=1000)/\(∀ b ∈ q,may 1 b/\b.size<=4097)/\q.length<=4
structure Read (t:Ts):Prop where
 prints:Prints t
 init:t.init.length<=1000
 each:∀ b ∈ t.threads,b.size<=4097
theorem Wo (hp:gM ts) {g:Gt} {out:Out Ts} (h:Tx ts g k out):k<ts.length->g.Ed k->∀ t k1,out = .ok t k1->Read t:=by
 have hm:∀ {s:List UInt8} {k:Nat},s ≠ []->k<ts.length->aj ts k=s->k+1<ts.length:=fun hs hk hc=>hp.good.more _ hk fun h0=>hs (by rw [<- hc,hp.fin _ h0])
 induction h with
 | init h1 h2 _ ih =>
  intro hk hg t k1 h;obtain ⟨i1,i2,i3,i4,i5⟩:=Jv hp (hm (by decide) hk h1) h2;refine ih i5 ⟨fun i hi=>?_,by have:=hg.2;simp;omega⟩ _ _ h;rcases List.mem_append.1 hi with hi | hi
  ·exact hg.1 i hi
  ·obtain rfl:i=_:=by simpa using hi
   exact ⟨i1,i2,i3⟩
 | pQ _ _=>intro _ _ t k1 h;cases h
 | inited _ _ ih =>
  intro hk hg t k1 h;exact ih hk ⟨⟨hg.1,by have:=hg.2;have:=hp.few;omega⟩,by simp,by simp⟩ _ _ h
 | many _ _=>intro _ _ t k1 h;cases h
 | thread h1 h2 h3 _ ih =>
  intro hk hg t k1 h;obtain ⟨l1,b1,b2⟩:=Ju hp h3 (hm (by decide) hk h1) trivial _ _ rfl;have:=hp.few;refine ih l1 ⟨hg.1,fun b hb=>?_,by simp;omega⟩ _ _ h;rcases List.mem_append.1 hb with hb | hb
  ·exact hg.2.1 b hb
  ·obtain rfl:b=_:=by simpa using hb
   exact ⟨b1,by omega⟩
 | kF _ _ _=>intro _ _ t k1 h;cases h
 | ask _ =>
  intro hk hg t k1 h;obtain ⟨rfl,rfl,a3,a4,a5⟩:=Ue hp hk h;obtain ⟨⟨g1,g2⟩,g3,g4⟩:=hg;exact ⟨⟨⟨fun i hi=>(g1 i hi).1,fun b hb=>⟨(g3 b hb).1.1,by have:=(g3 b hb).1.2.2;omega⟩,a3,a4⟩,fun i hi=>⟨(g1 i hi).2.1,(g1 i hi).2.2⟩,fun b hb=>(g3 b hb).1.2.1,g4,a5⟩,g2,fun b hb=>(g3 b hb).2⟩
end
theorem QL {l:List UInt8} {ts:List Lex.Tok} {t:Ts} {k:Nat} (h:Lex.fq l = .ok ts) (hx:Tx ts (.inits []) 0 (.ok t k)):Read t :=
 Wo (zF h) hx (zF h).some ⟨by simp,by simp⟩ _ _ rfl
def bZ:Ex->List It
 | .num n=>[⟨0,0,n,0,0,0⟩]
 | .reg i=>[⟨1,0,0,0,i,0⟩]
 | .of t i=>[⟨2,0,0,t,i,0⟩]
 | .loc x=>[⟨3,0,0,0,0,x⟩]
 | .one op a=>⟨4,op,0,0,0,0⟩ :: bZ a
 | .two op a b=>⟨5,op,0,0,0,0⟩ :: (bZ a ++ bZ b)
def Du:Option Ex->List It
 | none=>[]
 | some e=>bZ e
def gN (m:Mk):Prog.Mark:=⟨m.kind,m.reg,m.mode,m.loc,Du m.a,Du m.b⟩
def noMark:Prog.Mark:=⟨0,0,0,0,[],[]⟩
def aS:az->List Prog.Mark
 | .nil=>[]
 | .cons m t e r=>gN m :: ((if m.kind=8 then aS t ++ (noMark :: (aS e ++ [noMark])) else if m.kind=9 then aS t ++ [noMark] else []) ++ aS r)
def Part {α:Type} (l:List α) (k:Nat) (p:List α):Prop:=∀ i a,p[i]? = some a->l[k+i]? = some a
section
variable {α : Type} {l p q : List α} {k : Nat} {a : α}
theorem Part.head (h:Part l k (a :: p)):l[k]? = some a:=h 0 a rfl
theorem Part.tail (h:Part l k (a :: p)):Part l (k+1) p:=fun i x hx=>by
 rw [show k+1+i=k+(i+1) by omega];exact h (i+1) x (by simpa using hx)
theorem Part.left (h:Part l k (p ++ q)):Part l k p:=fun i x hx=>h i x (by rw [List.getElem?_append_left (List.getElem?_eq_some_iff.1 hx).1];exact hx)
theorem Part.right (h:Part l k (p ++ q)):Part l (k+p.length) q:=fun i x hx=>by
 rw [Nat.add_assoc];exact h (p.length+i) x (by rw [List.getElem?_append_right (by omega)];simpa using hx)
theorem Part.all (l:List α):Part l 0 l:=fun i x hx=>by rw [Nat.zero_add];exact hx
end
theorem NA (e:Ex):∀ (l:List It) (k:Nat),e.ok->Part l k (bZ e)->Sp l k e (k+(bZ e).length):=by
 induction e with
 | num n=>exact fun l k _ h=>Sp.num (a:=⟨0,0,n,0,0,0⟩) h.head rfl
 | reg i=>exact fun l k ho h=>Sp.reg (a:=⟨1,0,0,0,i,0⟩) h.head rfl ho
 | of t i=>exact fun l k ho h=>Sp.of (a:=⟨2,0,0,t,i,0⟩) h.head rfl ho.1 ho.2
 | loc x=>exact fun l k ho h=>Sp.loc (a:=⟨3,0,0,0,0,x⟩) h.head rfl ho.1 ho.2.1 ho.2.2
 | one op a ih =>
  intro l k ho h;have:=Sp.one (a:=⟨4,op,0,0,0,0⟩) h.head rfl ho.1 (ih l (k+1) ho.2 h.tail);rw [show k+1+(bZ a).length=k+(bZ (.one op a)).length by simp only [bZ,List.length_cons];omega] at this;exact this
 | two op a b iha ihb =>
  intro l k ho h;have hr:=(h.tail).right;have:=Sp.two (a:=⟨5,op,0,0,0,0⟩) h.head rfl ho.1 ho.2.1 (iha l (k+1) ho.2.2.1 h.tail.left) (ihb l _ ho.2.2.2 hr);rw [show k+1+(bZ a).length+(bZ b).length=k+(bZ (.two op a b)).length by simp only [bZ,List.length_cons,List.length_append];omega] at this;exact this
theorem zG {a:Option Ex} (h:okO a):iT (Du a)=a:=by
 cases a with
 | none=>exact Nq
 | some e=>exact BH (NA e (bZ e) 0 h.1 (Part.all _)) h.2
theorem KJ {m:Mk} (ha:okO m.a) (hb:okO m.b):eP (gN m)=m:=by
 unfold eP gN;simp only [zG ha,zG hb]
def Stop (l:List Prog.Mark) (k:Nat):Prop:=l[k]? = none \/ ∃ x,l[k]? = some x/\x.kind=0
theorem KL (b:az):∀ (l:List Prog.Mark) (k:Nat),b.proper->Part l k (aS b)->Stop l (k+(aS b).length)->qH l k b (k+(aS b).length):=by
 induction b with
 | nil =>
  intro l k _ _ hs;rcases hs with h | ⟨x,h,h0⟩
  ·exact .out h
  ·exact .stop h h0
 | cons m t e r F9 Kh ihr =>
  intro l k hp h hs;obtain ⟨hm,ht,he,hr,hne,hnt⟩:=hp;have hk:=Fx hm;have hmk:=KJ hm.1 hm.2.1;simp only [aS] at h hs ⊢
  by_cases h8:m.kind=8
  ·rw [if_pos h8] at h hs ⊢
   simp only [List.append_assoc,List.cons_append,List.nil_append] at h
   have e1:k+(gN m :: ((aS t ++ (noMark :: (aS e ++ [noMark]))) ++ aS r)).length=k+1+(aS t).length+1+(aS e).length+1+(aS r).length:=by
    simp only [List.length_cons,List.length_append,List.length_nil];omega
   rw [e1] at hs ⊢;have h1:=h.tail;have h2:=h1.right;have h3:=h2.tail.right;have:=qH.cond (x:=gN m) h.head h8 (F9 l (k+1) ht h1.left (.inr ⟨_,h2.head,rfl⟩)) (Kh l _ he h2.tail.left (.inr ⟨_,h3.head,rfl⟩)) (ihr l _ hr h3.tail hs);rw [hmk] at this;exact this
  ·rw [if_neg h8] at h hs ⊢
   obtain rfl:=hne h8;by_cases h9:m.kind=9
   ·rw [if_pos h9] at h hs ⊢
    simp only [List.append_assoc,List.cons_append,List.nil_append] at h
    have e1:k+(gN m :: ((aS t ++ [noMark]) ++ aS r)).length=k+1+(aS t).length+1+(aS r).length:=by
     simp only [List.length_cons,List.length_append,List.length_nil];omega
    rw [e1] at hs ⊢;have h1:=h.tail;have h2:=h1.right;have:=qH.loop (x:=gN m) h.head h9 (F9 l (k+1) ht h1.left (.inr ⟨_,h2.head,rfl⟩)) (ihr l _ hr h2.tail hs);rw [hmk] at this;exact this
   ·rw [if_neg h9] at h hs ⊢
    obtain rfl:=hnt h8 h9;have e1:k+(gN m :: ([] ++ aS r)).length=k+1+(aS r).length:=by
     simp only [List.length_cons,List.length_append,List.length_nil];omega
    rw [e1] at hs ⊢;have:=qH.plain (x:=gN m) h.head (by show m.kind≠0;omega) h8 h9 (ihr l (k+1) hr h.tail hs);rw [hmk] at this;exact this
theorem QM {l:List Prog.Mark} {k m:Nat} {b:az} (h:qH l k b m):∀ {b':az} {m':Nat},qH l k b' m' -> b=b' /\ m=m':=by
 induction h with
 | out hx =>
  intro b' m' h;cases h with
  | out _=>exact ⟨rfl,rfl⟩
  | stop h1 _ | plain h1 _ _ _ _ | loop h1 _ _ _ | cond h1 _ _ _ _=>rw [hx] at h1;cases h1
 | stop hx h0 =>
  intro b' m' h;cases h with
  | stop _ _=>exact ⟨rfl,rfl⟩
  | out h1=>rw [hx] at h1;cases h1
  | plain h1 h2 _ _ _ | loop h1 h2 _ _ | cond h1 h2 _ _ _=>rw [hx] at h1;injection h1 with h1;subst h1;omega
 | plain hx h0 h8 h9 _ ih =>
  intro b' m' h;cases h with
  | out h1=>rw [hx] at h1;cases h1
  | stop h1 h2 | loop h1 h2 _ _ | cond h1 h2 _ _ _=>rw [hx] at h1;injection h1 with h1;subst h1;omega
  | plain h1 _ _ _ h2=>rw [hx] at h1;injection h1 with h1;subst h1;obtain ⟨rfl,rfl⟩:=ih h2;exact ⟨rfl,rfl⟩
 | loop hx h9 _ _ ih1 ih2 =>
  intro b' m' h;cases h with
  | out h1=>rw [hx] at h1;cases h1
  | stop h1 h2 | plain h1 h2 _ _ _ | cond h1 h2 _ _ _=>rw [hx] at h1;injection h1 with h1;subst h1;omega
  | loop h1 _ h2 h3 =>
   rw [hx] at h1;injection h1 with h1;subst h1
   obtain ⟨rfl,rfl⟩:=ih1 h2;obtain ⟨rfl,rfl⟩:=ih2 h3;exact ⟨rfl,rfl⟩
 | cond hx h8 _ _ _ ih1 ih2 ih3 =>
  intro b' m' h;cases h with
  | out h1=>rw [hx] at h1;cases h1
  | stop h1 h2 | plain h1 h2 _ _ _ | loop h1 h2 _ _=>rw [hx] at h1;injection h1 with h1;subst h1;omega
  | cond h1 _ h2 h3 h4 =>
   rw [hx] at h1;injection h1 with h1;subst h1
   obtain ⟨rfl,rfl⟩:=ih1 h2;obtain ⟨rfl,rfl⟩:=ih2 h3;obtain ⟨rfl,rfl⟩:=ih3 h4;exact ⟨rfl,rfl⟩
theorem Fy {b:az} (h:b.proper):mP (aS b)=b :=
 (QM (zA (aS b)) (KL b _ 0 h (Part.all _) (.inl (by simp)))).1
def zH (t:Ts):Rt:=⟨t.init,t.threads.map aS,t.all,Du t.ask⟩
theorem QN {t:Ts} (h:t.proper):T9 (zH t)=t:=by
 obtain ⟨i,q,al,a⟩:=t;unfold T9 zH;have e1:iT (Du a)=a:=zG h.ask;have e2:(q.map aS).map mP=q:=by
  rw [List.map_map];refine (List.map_congr_left fun b hb=>?_).trans (List.map_id q);exact Fy (h.threads b hb).1
 simp only [e1,e2]
end Go.Proofs.YtaanhmndeobgbaaGreatDoor.fT
