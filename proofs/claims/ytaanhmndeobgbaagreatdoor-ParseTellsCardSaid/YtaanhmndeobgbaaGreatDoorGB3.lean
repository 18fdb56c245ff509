/- Part 14 of the proof: what is used of the texts FlowA, FlowB. -/
import Derived.Test.YtaanhmndeobgbaaGreatDoorGB2
namespace Go.Proofs.YtaanhmndeobgbaaGreatDoor.ae
open Go.RowKit Mem
def dW (P:Program) (Y:Value->World->Prop) (Z:List PanicEntry->World->Prop):Result Next->Prop
 | .ok (.value v) w=>Y v w
 | .ok (.enter f args) w=>Calls P f args w fun e w'=>(∃ v,e = .returned v/\Y v w') \/ (∃ c,e = .panicked c/\Z c w')
 | _=>False
theorem tK {P:Program} {o:Oper} {a:Act} {w:World} {K:Act->World->Prop} {Q:Exit->Act->World->Prop} {Y:Value->World->Prop} {Z:List PanicEntry->World->Prop}
  (h:dW P Y Z ((execOp a.eval o).run P w)) (hk:∀ v w',Y v w' -> K (a.put o.dst v) w') (hz:∀ c w',Z c w' -> Q (.panic c) a w'):o.wp P a w K Q:=by
 unfold Oper.wp;generalize (execOp a.eval o).run P w=r at h ⊢;cases r with
 | ok n w' =>
  cases n <;> simp only [dW] at h <;> simp only [Oper.upon]
  case value v=>exact hk v w' h
  case enter f args =>
   refine h.mono fun e w'' hy=>?_
   rcases hy with ⟨v,he,hy⟩ | ⟨c,he,hy⟩
   ·subst he;exact hk v w'' hy
   ·subst he;exact hz c w'' hy
 | halt x w'=>simp only [dW] at h
structure Rel (R:World->World->Prop):Prop where
 refl:∀ w,R w w
 trans:∀ {a b c},R a b->R b c->R a c
 drew:∀ w,R w w.drew
def ll (R:World->World->Prop) (p:Value->World->Prop):Prop:=∀ u w w',p u w->R w w' -> p u w'
def yZ (ops:Array Oper) (i:Nat):List Nat:=match ops[i]? with
 | some o=>(o.after.toList.filter (Region.binds .any ·)).map (·.on)
 | none=>[]
def Ze (ops:Array Oper):Nat->List Nat->List Nat
 | 0,l=>l
 | f+1,l=>Ze ops f (l ++ (l.flatMap (yZ ops)).filter fun x=>!l.contains x)
def VS (ops:Array Oper) (n a:Nat) (pure:List Nat):Bool :=
 Ed ops n && !pure.contains a && (decide (n<=a) || (List.range n).all fun i=>i == a || pure.contains i || (Ze ops n (yZ ops a)).contains i)
theorem TE {ops:Array Oper} {q:Nat->Prop} (hq:∀ i,q i->∀ j ∈ yZ ops i,q j):∀ (f:Nat) (l:List Nat),(∀ i ∈ l,q i)->∀ i ∈ Ze ops f l,q i:=by
 intro f;induction f with
 | zero=>intro l h i hi;exact h i hi
 | succ f ih =>
  intro l h i hi;refine ih _ (fun j hj=>?_) i hi;rcases List.mem_append.1 hj with hj | hj
  ·exact h j hj
  ·obtain ⟨x,hx,hjx⟩:=List.mem_flatMap.1 (List.mem_filter.1 hj).1
   exact hq x (h x hx) j hjx
section
variable {P : Program} {ops : Array Oper} {n : Nat} {a0 : Act} {W0 : World} {V : Nat → Value → World → Prop} {Q : Exit → Act → World → Prop} {R : World → World → Prop} {a : Nat} {pure : List (Nat × Value)} {J : Value → World → Prop} {Z : List PanicEntry → World → Prop} {E : Nat → Nat → Value → Value → World → Prop}
structure TF (ops:Array Oper) (n:Nat) (a0:Act) (W0:World) (V:Nat->Value->World->Prop) (R:World->World->Prop) (a:Nat) (pure:List (Nat × Value)) (J:Value->World->Prop) (E:Nat->Nat->Value->Value->World->Prop) (listed:Array Bool) (A:Act) (w:World):Prop where
 head:HeadInv .any ops n listed
 size:A.tmps.size=a0.tmps.size
 defers:A.defers=a0.defers
 other:∀ k,(∀ i,i<n->aI ops i≠k)->A.eval (.tmp k)=a0.eval (.tmp k)
 low:¬ (a<n/\listed.getD a false=true)->R W0 w/\(∀ i,i<n->listed.getD i false=true->V i (A.eval (.tmp (aI ops i))) w)/\∀ i j,i<n->j<n->i≠j->listed.getD i false=true->listed.getD j false=true->E i j (A.eval (.tmp (aI ops i))) (A.eval (.tmp (aI ops j))) w
 fin:a<n->listed.getD a false=true->J (A.eval (.tmp (aI ops a))) w
 X3:∀ p ∈ pure,p.1<n->listed.getD p.1 false=true->A.eval (.tmp (aI ops p.1))=p.2
theorem iQ {listed:Array Bool} {i j:Nat} (h:(listed.setIfInBounds i true).getD j false=true) (hne:j≠i):listed.getD j false=true:=by
 rwa [getD_set_ne false (Ne.symm hne)] at h
theorem Kn {listed:Array Bool} {i j:Nat} (h:listed.getD j false=true):(listed.setIfInBounds i true).getD j false=true:=by
 by_cases e:j=i
 ·subst e
  rw [Array.getD_eq_getD_getElem?] at h ⊢;by_cases hj:j<listed.size
  ·rw [Array.getElem?_setIfInBounds_self_of_lt hj];rfl
  ·rw [Array.getElem?_eq_none (by omega)] at h;cases h
 ·rwa [getD_set_ne false (Ne.symm e)]
theorem CX (hR:Rel R) (hE:∀ i j u v w,E i j u v w->E j i v u w) (MX:∀ i j u v w w',E i j u v w->R w w' -> E i j u v w') (hB:VS ops n a (pure.map (·.1))=true) (hsz:∀ i,i<n->aI ops i<a0.tmps.size)
  (mono:∀ i u w w',V i u w->R w w' -> V i u w')
  (step:∀ i o,i<n->i≠a->ops[i]? = some o->∀ (A:Act) (w:World),R W0 w->(∀ k,(∀ i,i<n->aI ops i≠k)->A.eval (.tmp k)=a0.eval (.tmp k)) ->
   (∀ e ∈ o.after,Region.binds .any e=true->V e.on (A.eval (.tmp (aI ops e.on))) w)->(Region.wanted o (yielded ops A.tmps)=true/\dW P (fun u w'=>V i u w' /\ R w w' /\ ∀ j v,j<n->j≠i->V j v w->E i j u v w') Z ((execOp A.eval o).run P w)) \/ (Region.wanted o (yielded ops A.tmps)=false/\V i undef w/\∀ j v,j<n->j≠i->V j v w->E i j undef v w))
  (y5:∀ o,a<n->ops[a]? = some o->∀ (A:Act) (w:World),R W0 w->(∀ k,(∀ i,i<n->aI ops i≠k)->A.eval (.tmp k)=a0.eval (.tmp k)) ->
   (∀ e ∈ o.after,Region.binds .any e=true->V e.on (A.eval (.tmp (aI ops e.on))) w)->Region.wanted o (yielded ops A.tmps)=true/\o.wp P A w (fun A' w'=>∃ u,A' = A.put o.dst u/\J u w') Q)
  (xL:∀ p ∈ pure,p.1<n->∀ o,ops[p.1]? = some o->(∀ u w,V p.1 u w->u=p.2)/\∀ (A:Act) (w:World),(∀ k,(∀ i,i<n->aI ops i≠k)->A.eval (.tmp k)=a0.eval (.tmp k)) ->
   Region.wanted o (yielded ops A.tmps)=true/\(execOp A.eval o).run P w = .ok (.value p.2) w)
  (panic:∀ c A w,Z c w->Q (.panic c) A w)
  (tail:∀ (A:Act) (w:World),A.tmps.size=a0.tmps.size->A.defers=a0.defers->(∀ k,(∀ i,i<n->aI ops i≠k)->A.eval (.tmp k)=a0.eval (.tmp k)) ->
   (¬ a<n->R W0 w/\(∀ i,i<n->V i (A.eval (.tmp (aI ops i))) w)/\∀ i j,i<n->j<n->i≠j->E i j (A.eval (.tmp (aI ops i))) (A.eval (.tmp (aI ops j))) w)->(a<n->J (A.eval (.tmp (aI ops a))) w)->(∀ p ∈ pure,p.1<n->A.eval (.tmp (aI ops p.1))=p.2)->wpList P ops Q (ops.toList.drop n) A w) :
  ∀ (f:Nat) (listed:Array Bool) (A:Act) (w:World),TF ops n a0 W0 V R a pure J E listed A w->(List.range n).countP (fun j=>!listed.getD j true)=f->wpAny P .any ops Q (f+(ops.size - n)) listed A w:=by
 simp only [VS,Bool.and_eq_true] at hB
 obtain ⟨⟨hB,X5⟩,Zf⟩:=hB;simp only [Ed,Bool.and_eq_true,decide_eq_true_eq] at hB
 obtain ⟨⟨⟨⟨hn,hs⟩,hc⟩,hq⟩,ho⟩:=hB;have each:∀ i,i<n->∃ o d,ops[i]? = some o/\o.dst=some d/\(∀ e ∈ o.after,Region.binds .any e=true->e.on<i)/\∀ j,j<n->j≠i->aI ops j≠d:=by
  intro i hi;have h:=List.all_eq_true.1 ho i (List.mem_range.2 hi);cases hoi:ops[i]? with
  | none=>simp [hoi] at h
  | some o =>
   simp only [hoi,Bool.and_eq_true] at h
   obtain ⟨⟨hd,ha⟩,hx⟩:=h;obtain ⟨d,hd⟩:=Option.isSome_iff_exists.1 hd;refine ⟨o,d,rfl,hd,fun e he hb=>?_,fun j hj hji hjd=>?_⟩
   ·have:=Array.all_eq_true'.1 ha e he
    simpa [hb] using this
   ·have:=List.all_eq_true.1 hx j (List.mem_range.2 hj)
    simp only [hji,decide_false,Bool.false_or] at this
    cases hoj:ops[j]? with
    | none=>simp [hoj] at this
    | some o' =>
     simp only [hoj,bne_iff_ne,ne_eq,hd] at this
     have ho':=List.all_eq_true.1 ho j (List.mem_range.2 hj);simp only [hoj,Bool.and_eq_true] at ho'
     obtain ⟨d',hd'⟩:=Option.isSome_iff_exists.1 ho'.1.1;simp only [aI,hoj,Option.bind_some,hd',Option.getD_some] at hjd
     exact this (by rw [hd',hjd])
 intro f;induction f with
 | zero =>
  intro listed A w hg hcount;have all:∀ i,i<n->listed.getD i false=true:=fun i hi=>by
   have:=List.countP_eq_zero.1 hcount i (List.mem_range.2 hi);have:¬ listed.getD i true=false:=by simpa using this
   exact qZ this (by rw [hg.head.size];omega)
  have e:listed=((List.range ops.size).map fun i=>decide (i<n)).toArray:=by
   apply Array.ext
   ·simp [hg.head.size]
   ·intro i h1 h2
    have h1':i<ops.size:=by rw [<- hg.head.size];exact h1
    by_cases hi:i<n
    ·have:=all i hi
     rw [Array.getD_eq_getD_getElem?,Array.getElem?_eq_getElem h1] at this;simpa [hi] using this
    ·have:=hg.head.tail i (by omega) h1'
     rw [Array.getD_eq_getD_getElem?,Array.getElem?_eq_getElem h1] at this;simpa [hi] using this
  have ht:=tail A w hg.size hg.defers hg.other (fun h=>⟨(hg.low fun h'=>h h'.1).1,fun i hi=>(hg.low fun h'=>h h'.1).2.1 i hi (all i hi),fun i j hi hj hij=>(hg.low fun h'=>h h'.1).2.2 i j hi hj hij (all i hi) (all j hj)⟩) (fun h=>hg.fin h (all a h)) (fun p hp hlt=>hg.X3 p hp hlt (all _ hlt));have:=wpAny_of_seq (md:=.any) (Q':=Q) (ops.toList.drop n) n listed A w (fun j=>by simp [List.getElem?_drop]) (by rw [List.length_drop,Array.length_toList,e];exact hq) ht;rw [List.length_drop,Array.length_toList] at this
  rwa [Nat.zero_add]
 | succ f ih =>
  intro listed A w hg hcount;rw [show f+1+(ops.size - n)=(f+(ops.size - n))+1 by omega];have some1:∃ i,i<n/\listed.getD i true=false:=by
   apply Classical.byContradiction;intro hno;have:(List.range n).countP (fun j=>!listed.getD j true)=0:=by
    rw [List.countP_eq_zero];intro j hj;have:¬ listed.getD j true=false:=fun h=>hno ⟨j,List.mem_range.1 hj,h⟩
    simpa using this
   omega
  have least:∀ i,i<n->listed.getD i true=false->∃ j ∈ Region.ready .any ops listed,j<n:=by
   intro i;induction i using Nat.strongRecOn with
   | _ i Qk =>
    intro hi hu;obtain ⟨o,d,hoi,_,ha,_⟩:=each i hi;by_cases hall:∀ e ∈ o.after,Region.binds .any e=true->listed.getD e.on false=true
    ·exact ⟨i,mem_ready.2 ⟨hu,o,hoi,hall⟩,hi⟩
    ·simp only [Classical.not_forall] at hall
     obtain ⟨e,he,hb,hl⟩:=hall;have hlt:=ha e he hb;exact Qk e.on hlt (by omega) (oL (by simpa using hl) (by rw [hg.head.size];omega))
  obtain ⟨i1,hi1,hu1⟩:=some1;obtain ⟨j1,hj1,_⟩:=least i1 hi1 hu1;refine ⟨fun h0=>(by rw [h0] at hj1;cases hj1),fun i hi=>?_⟩;have hin:i<n:=by
   rcases Nat.lt_or_ge i n with h | h
   ·exact h
   ·exact absurd hi (tail_waits hs hc hn hg.head _ i1 rfl hi1 hu1 i h)
  obtain ⟨LU,oi,hoi,hall⟩:=mem_ready.1 hi;obtain ⟨o,d,GK,hd,ha,hap⟩:=each i hin;obtain rfl:=Option.some.inj (hoi.symm.trans GK);have hdi:aI ops i=d:=by simp [aI,hoi,hd]
  have hdz:d<A.tmps.size:=by rw [hg.size,<- hdi];exact hsz i hin
  have hlz:i<listed.size:=by rw [hg.head.size];omega
  have hnot:listed.getD i false≠true:=by rw [getD_both LU];exact Bool.false_ne_true
  have cnt:(List.range n).countP (fun j=>!(listed.setIfInBounds i true).getD j true)=f:=by
   have hc2:=mD (p:=fun j=>!listed.getD j true) (q:=fun j=>!(listed.setIfInBounds i true).getD j true) (i:=i) (by simp only [LU];rfl) (by
    rw [Array.getD_eq_getD_getElem?,Array.getElem?_setIfInBounds_self_of_lt hlz];rfl) (fun j hj=>by rw [getD_set_ne true (Ne.symm hj)]) (List.range n) List.nodup_range (List.mem_range.2 hin)
   omega
  have uY:∀ v j,j<n->j≠i->(A.put (some d) v).eval (.tmp (aI ops j))=A.eval (.tmp (aI ops j)):=fun v j hj hji=>eval_put _ _ _ _ (hap j hj hji)
  have Bu:∀ v,(A.put (some d) v).eval (.tmp (aI ops i))=v:=fun v=>by rw [hdi,eval_put_same _ _ _ hdz]
  have y7:∀ v k,(∀ i,i<n->aI ops i≠k)->(A.put (some d) v).eval (.tmp k)=a0.eval (.tmp k):=fun v k hk=>by
   rw [eval_put _ _ _ _ (fun e=>hk i hin (hdi.trans e.symm))];exact hg.other k hk
  by_cases Pq:a<n/\listed.getD a false=true
  ·-- behind the operation that writes: the rest reads nothing
   have hia:i≠a:=fun e=>hnot (by rw [e];exact Pq.2)
   have hp:∃ p ∈ pure,p.1=i:=by
    have VT:=(Bool.or_eq_true_iff.1 Zf).resolve_left (fun h=>by have:=of_decide_eq_true h;have:=Pq.1;omega);have h:=List.all_eq_true.1 VT i (List.mem_range.2 hin);simp only [Bool.or_eq_true,beq_iff_eq,List.contains_iff_mem] at h
    rcases h with (h | h) | h
    ·exact absurd h hia
    ·obtain ⟨p,hp,e⟩:=List.mem_map.1 h;exact ⟨p,hp,e⟩
    ·exfalso
     have dep:∀ x,listed.getD x false=true->∀ j ∈ yZ ops x,listed.getD j false=true:=fun x hx j hj=>by
      unfold yZ at hj;cases hox:ops[x]? with
      | none=>rw [hox] at hj;cases hj
      | some ox =>
       rw [hox] at hj;obtain ⟨e,he,rfl⟩:=List.mem_map.1 hj;obtain ⟨he,hb⟩:=List.mem_filter.1 he;exact hg.head.closed x ox hox hx e (by simpa using he) hb
     exact hnot (TE (q:=fun x=>listed.getD x false=true) dep n _ (dep a Pq.2) i h)
   obtain ⟨p,hpm,rfl⟩:=hp;obtain ⟨_,hrun⟩:=xL p hpm hin oi hoi;obtain ⟨hwt,hr⟩:=hrun A w hg.other;unfold wpOp;simp only [hoi]
   rw [if_pos hwt];refine .inl ?_;unfold Oper.wp;rw [hr,Oper.upon_value,hd];refine ih _ _ _ ⟨hg.head.set hi hin,by simp [Act.put,hg.size],hg.defers,y7 _,fun h=>absurd ⟨Pq.1,Kn Pq.2⟩ h,fun _ _=>?_,fun q hq hlt hl=>?_⟩ cnt
   ·rw [uY _ a Pq.1 (fun e=>hia e.symm)];exact hg.fin Pq.1 Pq.2
   ·by_cases hqi:q.1=p.1
    ·rw [hqi,Bu]
     obtain ⟨_,hrun'⟩:=xL q hq hlt oi (by rw [hqi];exact hoi);have:=(hrun' A w hg.other).2;rw [hr] at this;injection this with this _;injection this
    ·rw [uY _ _ hlt hqi];exact hg.X3 q hq hlt (iQ hl hqi)
  ·obtain ⟨hlow,hhas,hee⟩:=hg.low Pq
   by_cases hia:i=a
   ·-- the operation that writes
    subst hia;obtain ⟨hwt,hy⟩:=y5 oi hin hoi A w hlow hg.other (fun e he hb=>hhas e.on (by have:=ha e he hb;omega) (hall e he hb));unfold wpOp;simp only [hoi]
    rw [if_pos hwt];refine .inl (Oper.wp_mono (fun A' w' hj=>?_) hy);obtain ⟨u,rfl,hj⟩:=hj;rw [hd];have Zg:(listed.setIfInBounds i true).getD i false=true:=by rw [Array.getD_eq_getD_getElem?,Array.getElem?_setIfInBounds_self_of_lt hlz];rfl
    refine ih _ _ _ ⟨hg.head.set hi hin,by simp [Act.put,hg.size],hg.defers,y7 _,fun h=>absurd ⟨hin,Zg⟩ h,fun _ _=>?_,fun q hq hlt hl=>?_⟩ cnt
    ·rw [Bu];exact hj
    ·by_cases hqi:q.1=i
     ·exfalso
      have:(pure.map (·.1)).contains i=true:=List.contains_iff_mem.2 (List.mem_map.2 ⟨q,hq,hqi⟩);rw [this] at X5;exact Bool.false_ne_true X5
     ·rw [uY _ _ hlt hqi];exact hg.X3 q hq hlt (iQ hl hqi)
   ·have hy:=step i oi hin hia hoi A w hlow hg.other (fun e he hb=>hhas e.on (by have:=ha e he hb;omega) (hall e he hb))
    have go:∀ v w',V i v w' -> R w w' -> (∀ j u,j<n->j≠i->V j u w->E i j v u w')->wpAny P .any ops Q (f+(ops.size - n)) (listed.setIfInBounds i true) (A.put (some d) v) w':=fun v w' hv hb hev=>by
     have nph:¬ (a<n/\(listed.setIfInBounds i true).getD a false=true):=fun h=>Pq ⟨h.1,iQ h.2 (fun e=>hia e.symm)⟩
     refine ih _ _ _ ⟨hg.head.set hi hin,by simp [Act.put,hg.size],hg.defers,y7 _,fun _=>⟨hR.trans hlow hb,fun j hj hl=>?_,fun x y hx hyn hxy lx ly=>?_⟩,fun h1 h2=>absurd ⟨h1,h2⟩ nph,fun q hq hlt hl=>?_⟩ cnt
     ·by_cases hji:j=i
      ·subst hji;rw [Bu];exact hv
      ·rw [uY _ j hj hji];exact mono _ _ _ _ (hhas j hj (iQ hl hji)) hb
     ·by_cases hxi:x=i
      ·subst hxi
       rw [Bu,uY _ y hyn (Ne.symm hxy)];exact hev y _ hyn (Ne.symm hxy) (hhas y hyn (iQ ly (Ne.symm hxy)))
      ·by_cases hyi:y=i
       ·subst hyi
        rw [Bu,uY _ x hx hxi];exact hE _ _ _ _ _ (hev x _ hx hxi (hhas x hx (iQ lx hxi)))
       ·rw [uY _ x hx hxi,uY _ y hyn hyi]
        exact MX _ _ _ _ _ _ (hee x y hx hyn hxy (iQ lx hxi) (iQ ly hyi)) hb
     ·by_cases hqi:q.1=i
      ·rw [hqi,Bu]
       exact (xL q hq hlt oi (by rw [hqi];exact hoi)).1 v w' (by rw [hqi];exact hv)
      ·rw [uY _ _ hlt hqi];exact hg.X3 q hq hlt (iQ hl hqi)
    unfold wpOp;simp only [hoi]
    rcases hy with ⟨hwt,hy⟩ | ⟨hwt,hv,hev⟩
    ·rw [if_pos hwt]
     refine .inl (tK hy (fun v w' ⟨hv,hb,hev⟩=>?_) (fun c w' hz=>panic c _ w' hz));rw [hd];exact go v w' hv hb hev
    ·rw [if_neg (by rw [hwt];exact Bool.false_ne_true),hd]
     exact go undef w hv (hR.refl _) hev
end
theorem y9 {R:World->World->Prop} {vl:List (Value->World->Prop)} (h:∀ p ∈ vl,ll R p) (i:Nat) (u:Value) (w w':World) (hp:pick vl i u w) (hb:R w w'):pick vl i u w':=by
 unfold pick at hp ⊢;rw [List.getD_eq_getElem?_getD] at hp ⊢;cases hi:vl[i]? with
 | none=>simp
 | some p=>rw [hi] at hp;exact h p (List.mem_of_getElem? hi) u w w' hp hb
theorem dx {R:World->World->Prop} (x:Value):ll R (aV x):=fun _ _ _ h _=>h
theorem MZ {P:Program} {Q:Exit->Act->World->Prop} {id:Nat} {l:List Oper} {R:World->World->Prop} (hR:Rel R) (ds:List Nat) (vl:List (Value->World->Prop)) (a:Nat) (pure:List (Nat × Value)) (J:Value->World->Prop) (Z:List PanicEntry->World->Prop) (E:Nat->Nat->Value->Value->World->Prop) {a0:Act} {w:World} (hE:∀ i j u v w,E i j u v w->E j i v u w) (MX:∀ i j u v w w',E i j u v w->R w w' -> E i j u v w')
  (hm:P.follows .mixedOrders=true) (hB:VS l.toArray ds.length a (pure.map (·.1))=true)
  (hd:((List.range ds.length).all fun i=>aI l.toArray i == ds.getD i 0)=true) (hnd:((List.range ds.length).all fun i=>(List.range ds.length).all fun j=>decide (j=i) || ds.getD j 0 != ds.getD i 0)=true) (hsz:(ds.all fun d=>decide (d<a0.tmps.size))=true) (mono:∀ p ∈ vl,ll R p)
  (step:∀ i o,i<ds.length->i≠a->l[i]? = some o->∀ (A:Act) (W:World),R w W->(∀ k,(ds.all fun d=>d != k)=true->A.tmps[k]?.getD undef=a0.tmps[k]?.getD undef) ->
   (∀ j,(o.after.any fun e=>e.on == j && Region.binds .any e)=true->pick vl j (A.tmps[ds.getD j 0]?.getD undef) W) ->
   (Region.wanted o (yielded l.toArray A.tmps)=true/\dW P (fun u W'=>pick vl i u W' /\ R W W' /\ ∀ j v,j<ds.length->j≠i->pick vl j v W->E i j u v W') Z ((execOp A.eval o).run P W)) \/ (Region.wanted o (yielded l.toArray A.tmps)=false/\pick vl i undef W/\∀ j v,j<ds.length->j≠i->pick vl j v W->E i j undef v W))
  (y5:∀ o,a<ds.length->l[a]? = some o->∀ (A:Act) (W:World),R w W->(∀ k,(ds.all fun d=>d != k)=true->A.tmps[k]?.getD undef=a0.tmps[k]?.getD undef) ->
   (∀ j,(o.after.any fun e=>e.on == j && Region.binds .any e)=true->pick vl j (A.tmps[ds.getD j 0]?.getD undef) W) ->
   Region.wanted o (yielded l.toArray A.tmps)=true/\o.wp P A W (fun A' w'=>∃ u,A' = A.put o.dst u/\J u w') Q)
  (xL:∀ p ∈ pure,p.1<ds.length->∀ o,l[p.1]? = some o->(∀ u w,pick vl p.1 u w->u=p.2)/\∀ (A:Act) (W:World),(∀ k,(ds.all fun d=>d != k)=true->A.tmps[k]?.getD undef=a0.tmps[k]?.getD undef) ->
   Region.wanted o (yielded l.toArray A.tmps)=true/\(execOp A.eval o).run P W = .ok (.value p.2) W)
  (panic:∀ c A W,Z c W->Q (.panic c) A W)
  (tail:∀ (xs:Nat->Value) (W:World),(¬ a<ds.length->R w W/\(∀ i,i<ds.length->pick vl i (xs i) W)/\∀ i j,i<ds.length->j<ds.length->i≠j->E i j (xs i) (xs j) W)->(a<ds.length->J (xs a) W)->(∀ p ∈ pure,p.1<ds.length->xs p.1=p.2)->wpList P l.toArray Q (l.drop ds.length) (gZ ds xs 0 a0) W) :
  (Code.region id l.toArray true).wp P Q a0 w:=by
 have hdst:∀ i,i<ds.length->aI l.toArray i=ds.getD i 0:=fun i hi=>by simpa using List.all_eq_true.1 hd i (List.mem_range.2 hi)
 have hmem:∀ i,i<ds.length->ds.getD i 0 ∈ ds:=fun i hi=>by rw [List.getD_eq_getElem?_getD,List.getElem?_eq_getElem hi];exact List.getElem_mem hi
 have hap:∀ i,i<ds.length->∀ j,j<ds.length->j≠i->aI l.toArray j≠aI l.toArray i:=fun i hi j hj hji e=>by
  rw [hdst i hi,hdst j hj] at e;have h:=List.all_eq_true.1 (List.all_eq_true.1 hnd i (List.mem_range.2 hi)) j (List.mem_range.2 hj);rw [e] at h;simp [hji] at h
 have hsz':∀ i,i<ds.length->aI l.toArray i<a0.tmps.size:=fun i hi=>by
  rw [hdst i hi];simpa using List.all_eq_true.1 hsz _ (hmem i hi)
 have hB3:=hB;simp only [VS,Bool.and_eq_true] at hB3
 have hB2:=hB3.1.1;simp only [Ed,Bool.and_eq_true,decide_eq_true_eq] at hB2
 have hn:=hB2.1.1.1.1;have slots:∀ {A:Act},(∀ k,(∀ i,i<ds.length->aI l.toArray i≠k)->A.eval (.tmp k)=a0.eval (.tmp k))->∀ k,(ds.all fun d=>d != k)=true->A.tmps[k]?.getD undef=a0.tmps[k]?.getD undef:=fun hk k hkk=>by
  rw [<- aU,<- aU];refine hk k fun i hi e=>?_
  rw [hdst i hi] at e;have:=List.all_eq_true.1 hkk _ (hmem i hi);rw [e] at this;simp at this
 have R5:∀ {i:Nat} {o:Oper} {A:Act} {W:World},i<ds.length->l.toArray[i]? = some o->(∀ e ∈ o.after,Region.binds .any e=true->pick vl e.on (A.eval (.tmp (aI l.toArray e.on))) W) ->
   ∀ j,(o.after.any fun e=>e.on == j && Region.binds .any e)=true->pick vl j (A.tmps[ds.getD j 0]?.getD undef) W:=fun {i o A W} hi ho he j hj=>by
  have h:=edge (P:=fun j=>pick vl j (A.eval (.tmp (aI l.toArray j))) W) he j hj;rw [aU] at h;have hlt:j<ds.length:=by
   have h2:=List.all_eq_true.1 hB2.2 i (List.mem_range.2 hi);rw [ho] at h2;simp only [Bool.and_eq_true] at h2
   obtain ⟨e,hm,hb⟩:=Array.any_eq_true'.1 hj;simp only [Bool.and_eq_true,beq_iff_eq] at hb
   have:=Array.all_eq_true'.1 h2.1.2 e hm;simp [hb.2] at this
   omega
  rw [hdst j hlt] at h;exact h
 refine wp_region_any hm ?_;have inv0:HeadInv .any l.toArray ds.length (Array.replicate l.toArray.size false) :=
  ⟨by simp,fun j oj _ hl=>(by rw [getD_replicate_false] at hl;cases hl),fun t _ ht=>getD_in (by simpa using ht) (getD_replicate_false _ _)⟩
 have c0:(List.range ds.length).countP (fun j=>!(Array.replicate l.toArray.size false).getD j true)=ds.length:=by
  have:∀ j ∈ List.range ds.length,(!(Array.replicate l.toArray.size false).getD j true)=true:=fun j hj=>by
   rw [getD_in (by have:=List.mem_range.1 hj;simp at hn ⊢;omega) (getD_replicate_false _ _)];rfl
  rw [List.countP_eq_length.2 this,List.length_range]
 have H:=CX (P:=P) (Q:=Q) (ops:=l.toArray) (W0:=w.drew) (V:=pick vl) (a0:=a0) (R:=R) (a:=a) (pure:=pure) (J:=J) (Z:=Z) (E:=E) hR hE MX hB hsz' (y9 mono)
  (fun i o hi hia ho A W hW hk he=>step i o hi hia (by simpa using ho) A W (hR.trans (hR.drew w) hW) (slots hk) (R5 hi ho he))
  (fun o ha ho A W hW hk he=>y5 o ha (by simpa using ho) A W (hR.trans (hR.drew w) hW) (slots hk) (R5 ha ho he))
  (fun p hp hlt o ho=>⟨(xL p hp hlt o (by simpa using ho)).1,fun A W hk=>(xL p hp hlt o (by simpa using ho)).2 A W (slots hk)⟩)
  panic
  (fun A W hs hd' hk h1 h2 h3=>by
   have e:A=gZ ds (fun i=>A.eval (.tmp (aI l.toArray i))) 0 a0:=by
    rw [yo l.toArray _ ds 0 a0 (fun i hi=>by rw [Nat.zero_add];exact hdst i hi),<- List.range_eq_range'];refine uX (by rw [nH,hs]) (by rw [kM,hd']) fun k=>?_
    by_cases h:∃ i,i<ds.length/\aI l.toArray i=k
    ·obtain ⟨i,hi,rfl⟩:=h
     rw [nI _ _ _ List.nodup_range (fun i hi j hj=>hap i (List.mem_range.1 hi) j (List.mem_range.1 hj)) (fun i hi=>hsz' i (List.mem_range.1 hi)) i (List.mem_range.2 hi)]
    ·have h':∀ i,i<ds.length->aI l.toArray i≠k:=fun i hi e=>h ⟨i,hi,e⟩
     rw [jT _ _ _ _ (fun i hi=>h' i (List.mem_range.1 hi)),hk k h']
   have ht:=tail (fun i=>A.eval (.tmp (aI l.toArray i))) W (fun h=>⟨hR.trans (hR.drew w) (h1 h).1,(h1 h).2.1,(h1 h).2.2⟩) h2 h3;rw [<- e] at ht
   simpa using ht)
  ds.length (Array.replicate l.toArray.size false) a0 w.drew ⟨inv0,rfl,rfl,fun _ _=>rfl,fun _=>⟨hR.refl _,fun i _ hl=>(by rw [getD_replicate_false] at hl;cases hl),fun i j _ _ _ hl=>(by rw [getD_replicate_false] at hl;cases hl)⟩,fun _ hl=>(by rw [getD_replicate_false] at hl;cases hl),fun p _ _ hl=>(by rw [getD_replicate_false] at hl;cases hl)⟩ c0
 rw [show ds.length+(l.toArray.size - ds.length)=l.toArray.size by omega] at H;exact H
theorem dW.mono {P:Program} {Y Y':Value->World->Prop} {Z:List PanicEntry->World->Prop} {r:Result Next} (h:dW P Y Z r) (hy:∀ v w,Y v w->Y' v w):dW P Y' Z r:=by
 cases r with
 | ok n w' =>
  cases n <;> simp only [dW] at h ⊢
  case value v=>exact hy v w' h
  case enter f args=>exact Calls.mono h fun e w'' hx=>hx.imp (fun ⟨v,he,hv⟩=>⟨v,he,hy v w'' hv⟩) id
 | halt x w'=>simp only [dW] at h
theorem oN {P:Program} {Q:Exit->Act->World->Prop} {id:Nat} {l:List Oper} {R:World->World->Prop} (hR:Rel R) (ds:List Nat) (vl:List (Value->World->Prop)) (a:Nat) (pure:List (Nat × Value)) (J:Value->World->Prop) (Z:List PanicEntry->World->Prop) {a0:Act} {w:World}
  (hm:P.follows .mixedOrders=true) (hB:VS l.toArray ds.length a (pure.map (·.1))=true)
  (hd:((List.range ds.length).all fun i=>aI l.toArray i == ds.getD i 0)=true) (hnd:((List.range ds.length).all fun i=>(List.range ds.length).all fun j=>decide (j=i) || ds.getD j 0 != ds.getD i 0)=true) (hsz:(ds.all fun d=>decide (d<a0.tmps.size))=true) (mono:∀ p ∈ vl,ll R p)
  (step:∀ i o,i<ds.length->i≠a->l[i]? = some o->∀ (A:Act) (W:World),R w W->(∀ k,(ds.all fun d=>d != k)=true->A.tmps[k]?.getD undef=a0.tmps[k]?.getD undef) ->
   (∀ j,(o.after.any fun e=>e.on == j && Region.binds .any e)=true->pick vl j (A.tmps[ds.getD j 0]?.getD undef) W) ->
   (Region.wanted o (yielded l.toArray A.tmps)=true/\dW P (fun u W'=>pick vl i u W' /\ R W W') Z ((execOp A.eval o).run P W)) \/ (Region.wanted o (yielded l.toArray A.tmps)=false/\pick vl i undef W))
  (y5:∀ o,a<ds.length->l[a]? = some o->∀ (A:Act) (W:World),R w W->(∀ k,(ds.all fun d=>d != k)=true->A.tmps[k]?.getD undef=a0.tmps[k]?.getD undef) ->
   (∀ j,(o.after.any fun e=>e.on == j && Region.binds .any e)=true->pick vl j (A.tmps[ds.getD j 0]?.getD undef) W) ->
   Region.wanted o (yielded l.toArray A.tmps)=true/\o.wp P A W (fun A' w'=>∃ u,A' = A.put o.dst u/\J u w') Q)
  (xL:∀ p ∈ pure,p.1<ds.length->∀ o,l[p.1]? = some o->(∀ u w,pick vl p.1 u w->u=p.2)/\∀ (A:Act) (W:World),(∀ k,(ds.all fun d=>d != k)=true->A.tmps[k]?.getD undef=a0.tmps[k]?.getD undef) ->
   Region.wanted o (yielded l.toArray A.tmps)=true/\(execOp A.eval o).run P W = .ok (.value p.2) W)
  (panic:∀ c A W,Z c W->Q (.panic c) A W)
  (tail:∀ (xs:Nat->Value) (W:World),(¬ a<ds.length->R w W/\∀ i,i<ds.length->pick vl i (xs i) W)->(a<ds.length->J (xs a) W)->(∀ p ∈ pure,p.1<ds.length->xs p.1=p.2)->wpList P l.toArray Q (l.drop ds.length) (gZ ds xs 0 a0) W) :
  (Code.region id l.toArray true).wp P Q a0 w :=
 MZ hR ds vl a pure J Z (fun _ _ _ _ _=>True) (fun _ _ _ _ _ _=>trivial) (fun _ _ _ _ _ _ _ _=>trivial) hm hB hd hnd hsz mono
  (fun i o hi hia ho A W hW hk he=>(step i o hi hia ho A W hW hk he).imp (fun ⟨h1,h2⟩=>⟨h1,h2.mono fun _ _ h=>⟨h.1,h.2,fun _ _ _ _ _=>trivial⟩⟩) (fun ⟨h1,h2⟩=>⟨h1,h2,fun _ _ _ _ _=>trivial⟩))
  y5 xL panic (fun xs W h1 h2 h3=>tail xs W (fun h=>⟨(h1 h).1,(h1 h).2.1⟩) h2 h3)
theorem Ko (X:Nat->Prop):Rel (aa X):=⟨aa.refl X,fun h k=>h.trans k,fun w=>(aa.refl X w).drew⟩
theorem kE:Rel (fun w w'=>Below w.heap.size w w'):=⟨fun w=>Below.refl _ w,fun h k=>h.trans (k.mono h.size),fun w=>(Below.refl _ w).drew⟩
section
variable {P : Program} {ops : Array Oper} {n : Nat} {a0 : Act} {Inv : (Nat → Bool) → (Nat → Value) → World → Prop} {Q : Exit → Act → World → Prop} {Z : List PanicEntry → World → Prop}
structure TG (ops:Array Oper) (n:Nat) (a0:Act) (Inv:(Nat->Bool)->(Nat->Value)->World->Prop) (listed:Array Bool) (A:Act) (w:World):Prop where
 head:HeadInv .any ops n listed
 size:A.tmps.size=a0.tmps.size
 defers:A.defers=a0.defers
 other:∀ k,(∀ i,i<n->aI ops i≠k)->A.eval (.tmp k)=a0.eval (.tmp k)
 inv:Inv (fun i=>listed.getD i false) (fun i=>A.eval (.tmp (aI ops i))) w
def bU (d:Nat->Bool) (i:Nat):Nat->Bool:=fun j=>d j || j == i
def dE (xs:Nat->Value) (i:Nat) (u:Value):Nat->Value:=fun j=>if j=i then u else xs j
def Local (n:Nat) (Inv:(Nat->Bool)->(Nat->Value)->World->Prop):Prop:=∀ d d' xs xs' w,(∀ i,i<n->d i=d' i)->(∀ i,i<n->xs i=xs' i)->Inv d xs w->Inv d' xs' w
theorem CY (hB:Ed ops n=true) (hI:Local n Inv) (hsz:∀ i,i<n->aI ops i<a0.tmps.size)
  (step:∀ i o,i<n->ops[i]? = some o->∀ (d:Nat->Bool) (A:Act) (w:World),Inv d (fun i=>A.eval (.tmp (aI ops i))) w->d i=false->(∀ k,(∀ i,i<n->aI ops i≠k)->A.eval (.tmp k)=a0.eval (.tmp k)) ->
   (∀ e ∈ o.after,Region.binds .any e=true->d e.on=true)->(Region.wanted o (yielded ops A.tmps)=true/\dW P (fun u w'=>Inv (bU d i) (dE (fun i=>A.eval (.tmp (aI ops i))) i u) w') Z ((execOp A.eval o).run P w)) \/ (Region.wanted o (yielded ops A.tmps)=false/\Inv (bU d i) (dE (fun i=>A.eval (.tmp (aI ops i))) i undef) w))
  (panic:∀ c (A:Act) w,A.defers=a0.defers->Z c w->Q (.panic c) A w)
  (tail:∀ (A:Act) (w:World),A.tmps.size=a0.tmps.size->A.defers=a0.defers->(∀ k,(∀ i,i<n->aI ops i≠k)->A.eval (.tmp k)=a0.eval (.tmp k)) ->
   Inv (fun _=>true) (fun i=>A.eval (.tmp (aI ops i))) w->wpList P ops Q (ops.toList.drop n) A w) :
  ∀ (f:Nat) (listed:Array Bool) (A:Act) (w:World),TG ops n a0 Inv listed A w->(List.range n).countP (fun j=>!listed.getD j true)=f->wpAny P .any ops Q (f+(ops.size - n)) listed A w:=by
 simp only [Ed,Bool.and_eq_true,decide_eq_true_eq] at hB
 obtain ⟨⟨⟨⟨hn,hs⟩,hc⟩,hq⟩,ho⟩:=hB;have each:∀ i,i<n->∃ o d,ops[i]? = some o/\o.dst=some d/\(∀ e ∈ o.after,Region.binds .any e=true->e.on<i)/\∀ j,j<n->j≠i->aI ops j≠d:=by
  intro i hi;have h:=List.all_eq_true.1 ho i (List.mem_range.2 hi);cases hoi:ops[i]? with
  | none=>simp [hoi] at h
  | some o =>
   simp only [hoi,Bool.and_eq_true] at h
   obtain ⟨⟨hd,ha⟩,hx⟩:=h;obtain ⟨d,hd⟩:=Option.isSome_iff_exists.1 hd;refine ⟨o,d,rfl,hd,fun e he hb=>?_,fun j hj hji hjd=>?_⟩
   ·have:=Array.all_eq_true'.1 ha e he
    simpa [hb] using this
   ·have:=List.all_eq_true.1 hx j (List.mem_range.2 hj)
    simp only [hji,decide_false,Bool.false_or] at this
    cases hoj:ops[j]? with
    | none=>simp [hoj] at this
    | some o' =>
     simp only [hoj,bne_iff_ne,ne_eq,hd] at this
     have ho':=List.all_eq_true.1 ho j (List.mem_range.2 hj);simp only [hoj,Bool.and_eq_true] at ho'
     obtain ⟨d',hd'⟩:=Option.isSome_iff_exists.1 ho'.1.1;simp only [aI,hoj,Option.bind_some,hd',Option.getD_some] at hjd
     exact this (by rw [hd',hjd])
 intro f;induction f with
 | zero =>
  intro listed A w hg hcount;have all:∀ i,i<n->listed.getD i false=true:=fun i hi=>by
   have:=List.countP_eq_zero.1 hcount i (List.mem_range.2 hi);have:¬ listed.getD i true=false:=by simpa using this
   exact qZ this (by rw [hg.head.size];omega)
  have e:listed=((List.range ops.size).map fun i=>decide (i<n)).toArray:=by
   apply Array.ext
   ·simp [hg.head.size]
   ·intro i h1 h2
    have h1':i<ops.size:=by rw [<- hg.head.size];exact h1
    by_cases hi:i<n
    ·have:=all i hi
     rw [Array.getD_eq_getD_getElem?,Array.getElem?_eq_getElem h1] at this;simpa [hi] using this
    ·have:=hg.head.tail i (by omega) h1'
     rw [Array.getD_eq_getD_getElem?,Array.getElem?_eq_getElem h1] at this;simpa [hi] using this
  have ht:=tail A w hg.size hg.defers hg.other (hI _ _ _ _ _ (fun i hi=>all i hi) (fun _ _=>rfl) hg.inv);have:=wpAny_of_seq (md:=.any) (Q':=Q) (ops.toList.drop n) n listed A w (fun j=>by simp [List.getElem?_drop]) (by rw [List.length_drop,Array.length_toList,e];exact hq) ht;rw [List.length_drop,Array.length_toList] at this
  rwa [Nat.zero_add]
 | succ f ih =>
  intro listed A w hg hcount;rw [show f+1+(ops.size - n)=(f+(ops.size - n))+1 by omega];have some1:∃ i,i<n/\listed.getD i true=false:=by
   apply Classical.byContradiction;intro hno;have:(List.range n).countP (fun j=>!listed.getD j true)=0:=by
    rw [List.countP_eq_zero];intro j hj;have:¬ listed.getD j true=false:=fun h=>hno ⟨j,List.mem_range.1 hj,h⟩
    simpa using this
   omega
  have least:∀ i,i<n->listed.getD i true=false->∃ j ∈ Region.ready .any ops listed,j<n:=by
   intro i;induction i using Nat.strongRecOn with
   | _ i Qk =>
    intro hi hu;obtain ⟨o,d,hoi,_,ha,_⟩:=each i hi;by_cases hall:∀ e ∈ o.after,Region.binds .any e=true->listed.getD e.on false=true
    ·exact ⟨i,mem_ready.2 ⟨hu,o,hoi,hall⟩,hi⟩
    ·simp only [Classical.not_forall] at hall
     obtain ⟨e,he,hb,hl⟩:=hall;have hlt:=ha e he hb;exact Qk e.on hlt (by omega) (oL (by simpa using hl) (by rw [hg.head.size];omega))
  obtain ⟨i1,hi1,hu1⟩:=some1;obtain ⟨j1,hj1,_⟩:=least i1 hi1 hu1;refine ⟨fun h0=>(by rw [h0] at hj1;cases hj1),fun i hi=>?_⟩;have hin:i<n:=by
   rcases Nat.lt_or_ge i n with h | h
   ·exact h
   ·exact absurd hi (tail_waits hs hc hn hg.head _ i1 rfl hi1 hu1 i h)
  obtain ⟨LU,oi,hoi,hall⟩:=mem_ready.1 hi;obtain ⟨o,d,GK,hd,ha,hap⟩:=each i hin;obtain rfl:=Option.some.inj (hoi.symm.trans GK);have hdi:aI ops i=d:=by simp [aI,hoi,hd]
  have hdz:d<A.tmps.size:=by rw [hg.size,<- hdi];exact hsz i hin
  have hlz:i<listed.size:=by rw [hg.head.size];omega
  have cnt:(List.range n).countP (fun j=>!(listed.setIfInBounds i true).getD j true)=f:=by
   have hc2:=mD (p:=fun j=>!listed.getD j true) (q:=fun j=>!(listed.setIfInBounds i true).getD j true) (i:=i) (by simp only [LU];rfl) (by
    rw [Array.getD_eq_getD_getElem?,Array.getElem?_setIfInBounds_self_of_lt hlz];rfl) (fun j hj=>by rw [getD_set_ne true (Ne.symm hj)]) (List.range n) List.nodup_range (List.mem_range.2 hin)
   omega
  have y7:∀ v k,(∀ i,i<n->aI ops i≠k)->(A.put (some d) v).eval (.tmp k)=a0.eval (.tmp k):=fun v k hk=>by
   rw [eval_put _ _ _ _ (fun e=>hk i hin (hdi.trans e.symm))];exact hg.other k hk
  have go:∀ v w',Inv (bU (fun i=>listed.getD i false) i) (dE (fun i=>A.eval (.tmp (aI ops i))) i v) w' -> wpAny P .any ops Q (f+(ops.size - n)) (listed.setIfInBounds i true) (A.put (some d) v) w':=fun v w' hv=>by
   refine ih _ _ _ ⟨hg.head.set hi hin,by simp [Act.put,hg.size],hg.defers,y7 _,hI _ _ _ _ _ (fun j hj=>?_) (fun j hj=>?_) hv⟩ cnt
   ·unfold bU
    by_cases e:j=i
    ·subst e
     have hx:(listed.setIfInBounds j true).getD j false=true:=by rw [Array.getD_eq_getD_getElem?,Array.getElem?_setIfInBounds_self_of_lt hlz];rfl
     show (listed.getD j false || j == j)=_
     rw [hx];simp
    ·rw [getD_set_ne false (Ne.symm e)];simp [e]
   ·unfold dE
    by_cases e:j=i
    ·subst e;rw [if_pos rfl,hdi,eval_put_same _ _ _ hdz]
    ·rw [if_neg e,eval_put _ _ _ _ (hap j hj e)]
  have hy:=step i oi hin hoi (fun i=>listed.getD i false) A w hg.inv (getD_both LU) hg.other (fun e he hb=>hall e he hb);unfold wpOp;simp only [hoi]
  rcases hy with ⟨hwt,hy⟩ | ⟨hwt,hv⟩
  ·rw [if_pos hwt]
   refine .inl (tK hy (fun v w' hv=>?_) (fun c w' hz=>panic c _ w' hg.defers hz));rw [hd];exact go v w' hv
  ·rw [if_neg (by rw [hwt];exact Bool.false_ne_true),hd]
   exact go undef w hv
end
theorem rf {P:Program} {Q:Exit->Act->World->Prop} {id:Nat} {l:List Oper} (ds:List Nat) (Inv:(Nat->Bool)->(Nat->Value)->World->Prop) (Z:List PanicEntry->World->Prop) {a0:Act} {w:World} (hI:Local ds.length Inv)
  (hm:P.follows .mixedOrders=true) (hB:Ed l.toArray ds.length=true)
  (hd:((List.range ds.length).all fun i=>aI l.toArray i == ds.getD i 0)=true) (hnd:((List.range ds.length).all fun i=>(List.range ds.length).all fun j=>decide (j=i) || ds.getD j 0 != ds.getD i 0)=true) (hsz:(ds.all fun d=>decide (d<a0.tmps.size))=true)
  (begin':∀ xs,Inv (fun _=>false) xs w.drew)
  (step:∀ i o,i<ds.length->l[i]? = some o->∀ (d:Nat->Bool) (A:Act) (W:World),Inv d (fun i=>A.tmps[ds.getD i 0]?.getD undef) W->d i=false->(∀ k,(ds.all fun d=>d != k)=true->A.tmps[k]?.getD undef=a0.tmps[k]?.getD undef) ->
   (∀ j,(o.after.any fun e=>e.on == j && Region.binds .any e)=true->d j=true) ->
   (Region.wanted o (yielded l.toArray A.tmps)=true/\dW P (fun u W'=>Inv (bU d i) (dE (fun i=>A.tmps[ds.getD i 0]?.getD undef) i u) W') Z ((execOp A.eval o).run P W)) \/ (Region.wanted o (yielded l.toArray A.tmps)=false/\Inv (bU d i) (dE (fun i=>A.tmps[ds.getD i 0]?.getD undef) i undef) W))
  (panic:∀ c (A:Act) W,A.defers=a0.defers->Z c W->Q (.panic c) A W)
  (tail:∀ (xs:Nat->Value) (W:World),Inv (fun _=>true) xs W->wpList P l.toArray Q (l.drop ds.length) (gZ ds xs 0 a0) W) :
  (Code.region id l.toArray true).wp P Q a0 w:=by
 have hdst:∀ i,i<ds.length->aI l.toArray i=ds.getD i 0:=fun i hi=>by simpa using List.all_eq_true.1 hd i (List.mem_range.2 hi)
 have hmem:∀ i,i<ds.length->ds.getD i 0 ∈ ds:=fun i hi=>by rw [List.getD_eq_getElem?_getD,List.getElem?_eq_getElem hi];exact List.getElem_mem hi
 have hap:∀ i,i<ds.length->∀ j,j<ds.length->j≠i->aI l.toArray j≠aI l.toArray i:=fun i hi j hj hji e=>by
  rw [hdst i hi,hdst j hj] at e;have h:=List.all_eq_true.1 (List.all_eq_true.1 hnd i (List.mem_range.2 hi)) j (List.mem_range.2 hj);rw [e] at h;simp [hji] at h
 have hsz':∀ i,i<ds.length->aI l.toArray i<a0.tmps.size:=fun i hi=>by
  rw [hdst i hi];simpa using List.all_eq_true.1 hsz _ (hmem i hi)
 have hB2:=hB;simp only [Ed,Bool.and_eq_true,decide_eq_true_eq] at hB2
 have hn:=hB2.1.1.1.1;have slots:∀ {A:Act},(∀ k,(∀ i,i<ds.length->aI l.toArray i≠k)->A.eval (.tmp k)=a0.eval (.tmp k))->∀ k,(ds.all fun d=>d != k)=true->A.tmps[k]?.getD undef=a0.tmps[k]?.getD undef:=fun hk k hkk=>by
  rw [<- aU,<- aU];refine hk k fun i hi e=>?_
  rw [hdst i hi] at e;have:=List.all_eq_true.1 hkk _ (hmem i hi);rw [e] at this;simp at this
 refine wp_region_any hm ?_;have inv0:HeadInv .any l.toArray ds.length (Array.replicate l.toArray.size false) :=
  ⟨by simp,fun j oj _ hl=>(by rw [getD_replicate_false] at hl;cases hl),fun t _ ht=>getD_in (by simpa using ht) (getD_replicate_false _ _)⟩
 have c0:(List.range ds.length).countP (fun j=>!(Array.replicate l.toArray.size false).getD j true)=ds.length:=by
  have:∀ j ∈ List.range ds.length,(!(Array.replicate l.toArray.size false).getD j true)=true:=fun j hj=>by
   rw [getD_in (by have:=List.mem_range.1 hj;simp at hn ⊢;omega) (getD_replicate_false _ _)];rfl
  rw [List.countP_eq_length.2 this,List.length_range]
 have M0:∀ (A:Act) i,i<ds.length->A.eval (.tmp (aI l.toArray i))=A.tmps[ds.getD i 0]?.getD undef:=fun A i hi=>by rw [aU,hdst i hi]
 have turn:∀ (A:Act) d W,Inv d (fun i=>A.eval (.tmp (aI l.toArray i))) W ↔ Inv d (fun i=>A.tmps[ds.getD i 0]?.getD undef) W:=fun A d W=>⟨hI _ _ _ _ _ (fun _ _=>rfl) (fun i hi=>M0 A i hi),hI _ _ _ _ _ (fun _ _=>rfl) (fun i hi=>(M0 A i hi).symm)⟩
 have R6:∀ (A:Act) d i u W,Inv d (dE (fun i=>A.tmps[ds.getD i 0]?.getD undef) i u) W->Inv d (dE (fun i=>A.eval (.tmp (aI l.toArray i))) i u) W:=fun A d i u W=>hI _ _ _ _ _ (fun _ _=>rfl) (fun j hj=>by unfold dE;by_cases e:j=i;(rw [if_pos e,if_pos e]);(rw [if_neg e,if_neg e];exact (M0 A j hj).symm))
 have H:=CY (P:=P) (Q:=Q) (ops:=l.toArray) (Inv:=Inv) (a0:=a0) (Z:=Z) hB hI hsz'
  (fun i o hi ho d A W hv hdi hk he=>(step i o hi (by simpa using ho) d A W ((turn A d W).1 hv) hdi (slots hk) (fun j hj=>edge (P:=fun j=>d j=true) he j hj)).imp
   (fun ⟨h1,h2⟩=>⟨h1,h2.mono fun u W' h=>R6 A _ i u W' h⟩) (fun ⟨h1,h2⟩=>⟨h1,R6 A _ i undef W h2⟩))
  panic
  (fun A W hs hd' hk hv=>by
   have e:A=gZ ds (fun i=>A.eval (.tmp (aI l.toArray i))) 0 a0:=by
    rw [yo l.toArray _ ds 0 a0 (fun i hi=>by rw [Nat.zero_add];exact hdst i hi),<- List.range_eq_range'];refine uX (by rw [nH,hs]) (by rw [kM,hd']) fun k=>?_
    by_cases h:∃ i,i<ds.length/\aI l.toArray i=k
    ·obtain ⟨i,hi,rfl⟩:=h
     rw [nI _ _ _ List.nodup_range (fun i hi j hj=>hap i (List.mem_range.1 hi) j (List.mem_range.1 hj)) (fun i hi=>hsz' i (List.mem_range.1 hi)) i (List.mem_range.2 hi)]
    ·have h':∀ i,i<ds.length->aI l.toArray i≠k:=fun i hi e=>h ⟨i,hi,e⟩
     rw [jT _ _ _ _ (fun i hi=>h' i (List.mem_range.1 hi)),hk k h']
   have ht:=tail (fun i=>A.eval (.tmp (aI l.toArray i))) W hv;rw [<- e] at ht
   simpa using ht)
  ds.length (Array.replicate l.toArray.size false) a0 w.drew ⟨inv0,rfl,rfl,fun _ _=>rfl,hI _ _ _ _ _ (fun i _=>(getD_replicate_false _ _).symm) (fun _ _=>rfl) (begin' fun i=>a0.eval (.tmp (aI l.toArray i)))⟩ c0
 rw [show ds.length+(l.toArray.size - ds.length)=l.toArray.size by omega] at H;exact H
theorem M3 {P:Program} {Q:Exit->Act->World->Prop} {id:Nat} {l:List Oper} {R K:World->World->Prop} (hR:Rel R) (hK:Rel K) (hRK:∀ x y,R x y->K x y) (ds:List Nat) (vl:List (Value->World->Prop)) (a:Nat) (Z:List PanicEntry->World->Prop) {a0:Act} {w:World} (ha:a<ds.length)
  (hm:P.follows .mixedOrders=true) (hB:Ed l.toArray ds.length=true)
  (hd:((List.range ds.length).all fun i=>aI l.toArray i == ds.getD i 0)=true) (hnd:((List.range ds.length).all fun i=>(List.range ds.length).all fun j=>decide (j=i) || ds.getD j 0 != ds.getD i 0)=true) (hsz:(ds.all fun d=>decide (d<a0.tmps.size))=true)
  (mono:∀ p ∈ vl,ll R p) (VU:∀ i,i≠a->ll K (pick vl i))
  (step:∀ i o,i<ds.length->i≠a->l[i]? = some o->∀ (A:Act) (W:World),K w W->(∀ k,(ds.all fun d=>d != k)=true->A.tmps[k]?.getD undef=a0.tmps[k]?.getD undef) ->
   (∀ j,j<ds.length->(o.after.any fun e=>e.on == j && Region.binds .any e)=true->pick vl j (A.tmps[ds.getD j 0]?.getD undef) W) ->
   (Region.wanted o (yielded l.toArray A.tmps)=true/\dW P (fun u W'=>pick vl i u W' /\ R W W') Z ((execOp A.eval o).run P W)) \/ (Region.wanted o (yielded l.toArray A.tmps)=false/\pick vl i undef W))
  (y5:∀ o,l[a]? = some o->∀ (A:Act) (W:World),R w W->(∀ k,(ds.all fun d=>d != k)=true->A.tmps[k]?.getD undef=a0.tmps[k]?.getD undef) ->
   (∀ j,j<ds.length->(o.after.any fun e=>e.on == j && Region.binds .any e)=true->pick vl j (A.tmps[ds.getD j 0]?.getD undef) W) ->
   Region.wanted o (yielded l.toArray A.tmps)=true/\dW P (fun u W'=>pick vl a u W' /\ K W W') Z ((execOp A.eval o).run P W))
  (panic:∀ c (A:Act) W,A.defers=a0.defers->Z c W->Q (.panic c) A W)
  (tail:∀ (xs:Nat->Value) (W:World),K w W->(∀ i,i<ds.length->pick vl i (xs i) W)->wpList P l.toArray Q (l.drop ds.length) (gZ ds xs 0 a0) W) :
  (Code.region id l.toArray true).wp P Q a0 w:=by
 refine rf (w:=w) ds (fun d xs W=>(∀ i,i<ds.length->d i=true->pick vl i (xs i) W)/\(d a=false->R w W)/\K w W) Z ?_ hm hB hd hnd hsz ?_ ?_ panic ?_
 ·intro d d' xs xs' W h1 h2 ⟨h3,h4,h5⟩
  exact ⟨fun i hi hd=>by rw [<- h2 i hi];exact h3 i hi (by rw [h1 i hi];exact hd),fun h=>h4 (by rw [h1 a ha];exact h),h5⟩
 ·intro xs
  exact ⟨fun _ _ h=>(by cases h),fun _=>hR.drew w,hK.drew w⟩
 ·intro i o hi ho d A W hv hdi hk he
  obtain ⟨h1,h2,h3⟩:=hv;have R7:∀ j,j<ds.length->(o.after.any fun e=>e.on == j && Region.binds .any e)=true->pick vl j (A.tmps[ds.getD j 0]?.getD undef) W:=fun j hj hb=>h1 j hj (he j hb)
  by_cases hia:i=a
  ·subst hia
   obtain ⟨hw,hy⟩:=y5 o ho A W (h2 hdi) hk R7;refine .inl ⟨hw,hy.mono fun u W' ⟨hu,hkk⟩=>⟨fun j hj hdj=>?_,fun h=>?_,hK.trans h3 hkk⟩⟩
   ·unfold dE
    by_cases e:j=i
    ·subst e;rw [if_pos rfl];exact hu
    ·rw [if_neg e]
     have:d j=true:=by simpa [bU,e] using hdj
     exact VU j e _ _ _ (h1 j hj this) hkk
   ·simp [bU] at h
  ·have fin:∀ u W',pick vl i u W' -> R W W' -> (∀ j,j<ds.length->bU d i j=true->pick vl j (dE (fun i=>A.tmps[ds.getD i 0]?.getD undef) i u j) W')/\(bU d i a=false->R w W')/\K w W':=fun u W' hu hr=>by
    refine ⟨fun j hj hdj=>?_,fun h=>?_,hK.trans h3 (hRK _ _ hr)⟩
    ·unfold dE
     by_cases e:j=i
     ·subst e;rw [if_pos rfl];exact hu
     ·rw [if_neg e]
      have:d j=true:=by simpa [bU,e] using hdj
      exact y9 mono j _ _ _ (h1 j hj this) hr
    ·have:d a=false:=by simp [bU] at h;exact h.1
     exact hR.trans (h2 this) hr
   rcases step i o hi hia ho A W h3 hk R7 with ⟨hw,hy⟩ | ⟨hw,hu⟩
   ·exact .inl ⟨hw,hy.mono fun u W' h=>fin u W' h.1 h.2⟩
   ·exact .inr ⟨hw,fin undef W hu (hR.refl W)⟩
 ·intro xs W ⟨h1,_,h3⟩
  exact tail xs W h3 fun i hi=>h1 i hi rfl
end Go.Proofs.YtaanhmndeobgbaaGreatDoor.ae
