/- Part 13 of the proof: what is used of the texts Flow, FlowG. -/
import Derived.Test.YtaanhmndeobgbaaGreatDoorGA2
import Derived.StillTail
import Derived.Deep.Quiet
namespace Go.Proofs.YtaanhmndeobgbaaGreatDoor.ae
open Go.RowKit Mem
def Yields (P:Program) (Y:Value->World->Prop):Result Next->Prop
 | .ok (.value v) w=>Y v w
 | .ok (.enter f args) w=>Calls P f args w fun e w'=>∃ v,e = .returned v/\Y v w'
 | _=>False
theorem uW {P:Program} {o:Oper} {a:Act} {w:World} {K:Act->World->Prop} {Q:Exit->Act->World->Prop} {Y:Value->World->Prop}
  (h:Yields P Y ((execOp a.eval o).run P w)) (hk:∀ v w',Y v w' -> K (a.put o.dst v) w'):o.wp P a w K Q:=by
 unfold Oper.wp;generalize (execOp a.eval o).run P w=r at h ⊢;cases r with
 | ok n w' =>
  cases n <;> simp only [Yields] at h <;> simp only [Oper.upon]
  case value v=>exact hk v w' h
  case enter f args=>exact h.mono fun e w'' ⟨v,he,hy⟩=>by subst he;exact hk v w'' hy
 | halt x w'=>simp only [Yields] at h
def okB (ops:Array Oper) (n:Nat):Bool :=
 decide (n<ops.size) && Region.sinkB .any ops n && Region.chainB .any ops n && Region.seqB .any ops (ops.size - n) n ((List.range ops.size).map fun i=>decide (i<n)).toArray &&
  (List.range n).all fun i=>match ops[i]? with
   | some o=>o.guard.isNone && o.dst.isSome && (o.after.all fun e=>!Region.binds .any e || decide (e.on<i)) &&
     (List.range n).all fun j=>decide (j=i) || match ops[j]? with
      | some o'=>o'.dst != o.dst
      | none=>false
   | none=>false
def aI (ops:Array Oper) (i:Nat):Nat:=((ops[i]?).bind (·.dst)).getD 0
def kD (ops:Array Oper) (xs:Nat->Value):List Nat->Act->Act
 | [],a=>a
 | i :: l,a=>kD ops xs l (a.put (some (aI ops i)) (xs i))
section
variable {P : Program} {ops : Array Oper} {n : Nat} {a0 : Act} {W0 : World} {V : Nat → Value → World → Prop} {Q : Exit → Act → World → Prop}
structure Going (ops:Array Oper) (n:Nat) (a0:Act) (W0:World) (V:Nat->Value->World->Prop) (listed:Array Bool) (A:Act) (w:World):Prop where
 head:HeadInv .any ops n listed
 low:Below W0.heap.size W0 w
 size:A.tmps.size=a0.tmps.size
 defers:A.defers=a0.defers
 other:∀ k,(∀ i,i<n->aI ops i≠k)->A.eval (.tmp k)=a0.eval (.tmp k)
 has:∀ i,i<n->listed.getD i false=true->V i (A.eval (.tmp (aI ops i))) w
theorem oL {listed:Array Bool} {i:Nat} (h:listed.getD i false=false) (hi:i<listed.size):listed.getD i true=false:=by
 simp [hi] at h ⊢;exact h
theorem qZ {listed:Array Bool} {i:Nat} (h:¬ listed.getD i true=false) (hi:i<listed.size):listed.getD i false=true:=by
 simp [hi] at h ⊢;exact h
theorem mD {p q:Nat->Bool} {i:Nat} (hp:p i=true) (hq:q i=false) (hj:∀ j,j≠i->q j=p j):∀ (l:List Nat),l.Nodup->i ∈ l->l.countP p=l.countP q+1:=by
 intro l;induction l with
 | nil=>intro _ h;cases h
 | cons x l ih =>
  intro hd hm;rw [List.nodup_cons] at hd;by_cases hx:x=i
  ·subst hx
   have:l.countP p=l.countP q:=by
    apply List.countP_congr;intro y hy;rw [hj y (fun e=>hd.1 (e ▸ hy))]
   rw [List.countP_cons_of_pos hp,List.countP_cons_of_neg (by rw [hq];exact Bool.false_ne_true),this]
  ·have hm':i ∈ l:=by
    rcases List.mem_cons.1 hm with h | h
    ·exact absurd h.symm hx
    ·exact h
   have:=ih hd.2 hm';rw [List.countP_cons,List.countP_cons,hj x hx,this];omega
theorem eval_put (A:Act) (d k:Nat) (v:Value) (h:k≠d):(A.put (some d) v).eval (.tmp k)=A.eval (.tmp k):=by
 simp only [Act.put,Act.eval]
 rw [Array.getD_eq_getD_getElem?,Array.getD_eq_getD_getElem?,Array.getElem?_setIfInBounds_ne (Ne.symm h)]
theorem eval_put_same (A:Act) (d:Nat) (v:Value) (h:d<A.tmps.size):(A.put (some d) v).eval (.tmp d)=v:=by
 simp only [Act.put,Act.eval]
 rw [Array.getD_eq_getD_getElem?,Array.getElem?_setIfInBounds_self_of_lt h];rfl
theorem Fa (hB:okB ops n=true) (hsz:∀ i,i<n->aI ops i<a0.tmps.size)
  (mono:∀ i u w w',V i u w->Below w.heap.size w w' -> V i u w')
  (step:∀ i o,i<n->ops[i]? = some o->∀ (A:Act) (w:World),Below W0.heap.size W0 w->(∀ k,(∀ i,i<n->aI ops i≠k)->A.eval (.tmp k)=a0.eval (.tmp k)) ->
   (∀ e ∈ o.after,Region.binds .any e=true->V e.on (A.eval (.tmp (aI ops e.on))) w)->Yields P (fun u w'=>V i u w' /\ Below w.heap.size w w') ((execOp A.eval o).run P w))
  (tail:∀ (A:Act) (w:World),A.tmps.size=a0.tmps.size->A.defers=a0.defers->Below W0.heap.size W0 w->(∀ k,(∀ i,i<n->aI ops i≠k)->A.eval (.tmp k)=a0.eval (.tmp k)) ->
   (∀ i,i<n->V i (A.eval (.tmp (aI ops i))) w)->wpList P ops Q (ops.toList.drop n) A w) :
  ∀ (f:Nat) (listed:Array Bool) (A:Act) (w:World),Going ops n a0 W0 V listed A w->(List.range n).countP (fun j=>!listed.getD j true)=f->wpAny P .any ops Q (f+(ops.size - n)) listed A w:=by
 simp only [okB,Bool.and_eq_true,decide_eq_true_eq] at hB
 obtain ⟨⟨⟨⟨hn,hs⟩,hc⟩,hq⟩,ho⟩:=hB;have each:∀ i,i<n->∃ o d,ops[i]? = some o/\o.guard=none/\o.dst=some d/\(∀ e ∈ o.after,Region.binds .any e=true->e.on<i)/\∀ j,j<n->j≠i->aI ops j≠d:=by
  intro i hi;have h:=List.all_eq_true.1 ho i (List.mem_range.2 hi);cases hoi:ops[i]? with
  | none=>simp [hoi] at h
  | some o =>
   simp only [hoi,Bool.and_eq_true,Option.isNone_iff_eq_none] at h
   obtain ⟨⟨⟨hg,hd⟩,ha⟩,hx⟩:=h;obtain ⟨d,hd⟩:=Option.isSome_iff_exists.1 hd;refine ⟨o,d,rfl,hg,hd,fun e he hb=>?_,fun j hj hji hjd=>?_⟩
   ·have:=Array.all_eq_true'.1 ha e he
    simpa [hb] using this
   ·have:=List.all_eq_true.1 hx j (List.mem_range.2 hj)
    simp only [hji,decide_false,Bool.false_or] at this
    cases hoj:ops[j]? with
    | none=>simp [hoj] at this
    | some o' =>
     simp only [hoj,bne_iff_ne,ne_eq,hd] at this
     have ho':=List.all_eq_true.1 ho j (List.mem_range.2 hj);simp only [hoj,Bool.and_eq_true] at ho'
     obtain ⟨d',hd'⟩:=Option.isSome_iff_exists.1 ho'.1.1.2;simp only [aI,hoj,Option.bind_some,hd',Option.getD_some] at hjd
     exact this (by rw [hd',hjd])
 intro f;induction f with
 | zero =>
  intro listed A w hg hcount;have all:∀ i,i<n->listed.getD i false=true:=fun i hi=>by
   have:=List.countP_eq_zero.1 hcount i (List.mem_range.2 hi);have:¬ listed.getD i true=false:=by simpa using this
   exact qZ this (by rw [hg.head.size];omega)
  have e:listed=((List.range ops.size).map fun i=>decide (i<n)).toArray:=by
   apply Array.ext
   ·simp [hg.head.size]
   ·intro i h1 h2
    have h1':i<ops.size:=by rw [<- hg.head.size];exact h1
    by_cases hi:i<n
    ·have:=all i hi
     rw [Array.getD_eq_getD_getElem?,Array.getElem?_eq_getElem h1] at this;simpa [hi] using this
    ·have:=hg.head.tail i (by omega) h1'
     rw [Array.getD_eq_getD_getElem?,Array.getElem?_eq_getElem h1] at this;simpa [hi] using this
  have ht:=tail A w hg.size hg.defers hg.low hg.other (fun i hi=>hg.has i hi (all i hi));have:=wpAny_of_seq (md:=.any) (Q':=Q) (ops.toList.drop n) n listed A w (fun j=>by simp [List.getElem?_drop]) (by rw [List.length_drop,Array.length_toList,e];exact hq) ht;rw [List.length_drop,Array.length_toList] at this
  rwa [Nat.zero_add]
 | succ f ih =>
  intro listed A w hg hcount;rw [show f+1+(ops.size - n)=(f+(ops.size - n))+1 by omega]
  -- the first that has not come up may come up
  have some1:∃ i,i<n/\listed.getD i true=false:=by
   apply Classical.byContradiction;intro hno;have:(List.range n).countP (fun j=>!listed.getD j true)=0:=by
    rw [List.countP_eq_zero];intro j hj;have:¬ listed.getD j true=false:=fun h=>hno ⟨j,List.mem_range.1 hj,h⟩
    simpa using this
   omega
  have least:∀ i,i<n->listed.getD i true=false->∃ j ∈ Region.ready .any ops listed,j<n:=by
   intro i;induction i using Nat.strongRecOn with
   | _ i Qk =>
    intro hi hu;obtain ⟨o,d,hoi,_,_,ha,_⟩:=each i hi;by_cases hall:∀ e ∈ o.after,Region.binds .any e=true->listed.getD e.on false=true
    ·exact ⟨i,mem_ready.2 ⟨hu,o,hoi,hall⟩,hi⟩
    ·simp only [Classical.not_forall] at hall
     obtain ⟨e,he,hb,hl⟩:=hall;have hlt:=ha e he hb;exact Qk e.on hlt (by omega) (oL (by simpa using hl) (by rw [hg.head.size];omega))
  obtain ⟨i1,hi1,hu1⟩:=some1;obtain ⟨j1,hj1,_⟩:=least i1 hi1 hu1;refine ⟨fun h0=>(by rw [h0] at hj1;cases hj1),fun i hi=>?_⟩;have hin:i<n:=by
   rcases Nat.lt_or_ge i n with h | h
   ·exact h
   ·exact absurd hi (tail_waits hs hc hn hg.head _ i1 rfl hi1 hu1 i h)
  obtain ⟨LU,oi,hoi,hall⟩:=mem_ready.1 hi;obtain ⟨o,d,GK,hgd,hd,ha,hap⟩:=each i hin;obtain rfl:=Option.some.inj (hoi.symm.trans GK);have hdi:aI ops i=d:=by simp [aI,hoi,hd]
  have hdz:d<A.tmps.size:=by rw [hg.size,<- hdi];exact hsz i hin
  have hy:=step i oi hin hoi A w hg.low hg.other (fun e he hb=>hg.has e.on (by have:=ha e he hb;omega) (hall e he hb));unfold wpOp;simp only [hoi]
  rw [if_pos (by unfold Region.wanted;rw [hgd])];refine .inl (uW hy fun v w' ⟨hv,hb⟩=>?_);rw [hd];refine ih _ _ _ ⟨hg.head.set hi hin,hg.low.trans (hb.mono hg.low.size),by simp [Act.put,hg.size],hg.defers,fun k hk=>?_,fun j hj hl=>?_⟩ ?_
  ·rw [eval_put _ _ _ _ (fun e=>hk i hin (hdi.trans e.symm))];exact hg.other k hk
  ·by_cases hji:j=i
   ·subst hji;rw [hdi,eval_put_same _ _ _ hdz];exact hv
   ·rw [eval_put _ _ _ _ (hap j hj hji)]
    rw [getD_set_ne false (Ne.symm hji)] at hl;exact mono _ _ _ _ (hg.has j hj hl) hb
  ·have hsz:i<listed.size:=by rw [hg.head.size];omega
   have hc2:=mD (p:=fun j=>!listed.getD j true) (q:=fun j=>!(listed.setIfInBounds i true).getD j true) (i:=i) (by simp only [LU];rfl) (by
    rw [Array.getD_eq_getD_getElem?,Array.getElem?_setIfInBounds_self_of_lt hsz];rfl) (fun j hj=>by rw [getD_set_ne true (Ne.symm hj)]) (List.range n) List.nodup_range (List.mem_range.2 hin)
   omega
theorem nH (xs:Nat->Value):∀ (l:List Nat) (a:Act),(kD ops xs l a).tmps.size=a.tmps.size:=by
 intro l;induction l with
 | nil=>intro a;rfl
 | cons i l ih=>intro a;simp only [kD];rw [ih];simp [Act.put]
theorem kM (xs:Nat->Value):∀ (l:List Nat) (a:Act),(kD ops xs l a).defers=a.defers:=by
 intro l;induction l with
 | nil=>intro a;rfl
 | cons i l ih=>intro a;simp only [kD];rw [ih];rfl
theorem jT (xs:Nat->Value) (k:Nat):∀ (l:List Nat) (a:Act),(∀ i ∈ l,aI ops i≠k)->(kD ops xs l a).eval (.tmp k)=a.eval (.tmp k):=by
 intro l;induction l with
 | nil=>intro a _;rfl
 | cons i l ih =>
  intro a h;simp only [kD]
  rw [ih _ (fun j hj=>h j (List.mem_cons_of_mem _ hj)),eval_put _ _ _ _ (Ne.symm (h i List.mem_cons_self))]
theorem nI (xs:Nat->Value):∀ (l:List Nat) (a:Act),l.Nodup->(∀ i ∈ l,∀ j ∈ l,j≠i->aI ops j≠aI ops i)->(∀ i ∈ l,aI ops i<a.tmps.size)->∀ i ∈ l,(kD ops xs l a).eval (.tmp (aI ops i))=xs i:=by
 intro l;induction l with
 | nil=>intro a _ _ _ i hi;cases hi
 | cons x l ih =>
  intro a hnd hap hsz i hi;rw [List.nodup_cons] at hnd;simp only [kD]
  by_cases hx:i=x
  ·subst hx
   rw [jT _ _ l _ (fun j hj=>hap i List.mem_cons_self j (List.mem_cons_of_mem _ hj) (fun e=>hnd.1 (e ▸ hj))),eval_put_same _ _ _ (hsz i List.mem_cons_self)]
  ·have hi':i ∈ l:=by
    rcases List.mem_cons.1 hi with h | h
    ·exact absurd h hx
    ·exact h
   exact ih _ hnd.2 (fun i hi j hj=>hap i (List.mem_cons_of_mem _ hi) j (List.mem_cons_of_mem _ hj)) (fun j hj=>by simp [Act.put];exact hsz j (List.mem_cons_of_mem _ hj)) i hi'
theorem uX {A B:Act} (hs:A.tmps.size=B.tmps.size) (hd:A.defers=B.defers) (he:∀ k,A.eval (.tmp k)=B.eval (.tmp k)):A=B:=by
 obtain ⟨t,d⟩:=A;obtain ⟨t',d'⟩:=B;simp only at hs hd
 subst hd
 congr 1
 apply Array.ext hs;intro i h1 h2;have:=he i;simp only [Act.eval] at this
 rw [Array.getD_eq_getD_getElem?,Array.getD_eq_getD_getElem?,Array.getElem?_eq_getElem h1,Array.getElem?_eq_getElem h2] at this;exact this
theorem yX {id:Nat} {l:List Oper} (n:Nat) (V:Nat->Value->World->Prop) {a0:Act} {w:World} (hm:P.follows .mixedOrders=true) (hB:okB l.toArray n=true)
  (hsz:((List.range n).all fun i=>decide (aI l.toArray i<a0.tmps.size))=true)
  (mono:∀ i u w w',V i u w->Below w.heap.size w w' -> V i u w')
  (step:∀ i o,i<n->l[i]? = some o->∀ (A:Act) (W:World),Below w.heap.size w W->(∀ k,(∀ i,i<n->aI l.toArray i≠k)->A.eval (.tmp k)=a0.eval (.tmp k)) ->
   (∀ e ∈ o.after,Region.binds .any e=true->V e.on (A.eval (.tmp (aI l.toArray e.on))) W)->Yields P (fun u W'=>V i u W' /\ Below W.heap.size W W') ((execOp A.eval o).run P W))
  (tail:∀ (xs:Nat->Value) (W:World),Below w.heap.size w W->(∀ i,i<n->V i (xs i) W)->wpList P l.toArray Q (l.drop n) (kD l.toArray xs (List.range n) a0) W) :
  (Code.region id l.toArray true).wp P Q a0 w:=by
 have hsz':∀ i,i<n->aI l.toArray i<a0.tmps.size:=fun i hi=>by simpa using List.all_eq_true.1 hsz i (List.mem_range.2 hi)
 have hB':=hB;simp only [okB,Bool.and_eq_true,decide_eq_true_eq] at hB'
 have hn:=hB'.1.1.1.1;have hap:∀ i,i<n->∀ j,j<n->j≠i->aI l.toArray j≠aI l.toArray i:=by
  intro i hi j hj hji;have h:=List.all_eq_true.1 hB'.2 i (List.mem_range.2 hi);cases hoi:l.toArray[i]? with
  | none=>simp only [hoi] at h;exact absurd h Bool.false_ne_true
  | some o =>
   simp only [hoi,Bool.and_eq_true] at h
   obtain ⟨d,hd⟩:=Option.isSome_iff_exists.1 h.1.1.2;have:=List.all_eq_true.1 h.2 j (List.mem_range.2 hj);have h':=List.all_eq_true.1 hB'.2 j (List.mem_range.2 hj);cases hoj:l.toArray[j]? with
   | none=>simp only [hoj] at h';exact absurd h' Bool.false_ne_true
   | some o' =>
    simp only [hoj,Bool.and_eq_true] at h'
    obtain ⟨d',hd'⟩:=Option.isSome_iff_exists.1 h'.1.1.2;simp only [hji,decide_false,Bool.false_or,hoj,bne_iff_ne,ne_eq,hd,hd'] at this
    simp only [aI,hoi,hoj,Option.bind_some,hd,hd',Option.getD_some]
    exact fun e=>this (by rw [e])
 refine wp_region_any hm ?_;have inv0:HeadInv .any l.toArray n (Array.replicate l.toArray.size false) :=
  ⟨by simp,fun j oj _ hl=>(by rw [getD_replicate_false] at hl;cases hl),fun t _ ht=>getD_in (by simpa using ht) (getD_replicate_false _ _)⟩
 have c0:(List.range n).countP (fun j=>!(Array.replicate l.toArray.size false).getD j true)=n:=by
  have:∀ j ∈ List.range n,(!(Array.replicate l.toArray.size false).getD j true)=true:=fun j hj=>by
   rw [getD_in (by have:=List.mem_range.1 hj;simp at hn ⊢;omega) (getD_replicate_false _ _)];rfl
  rw [List.countP_eq_length.2 this,List.length_range]
 have H:=Fa (P:=P) (Q:=Q) (ops:=l.toArray) (W0:=w.drew) (V:=V) (a0:=a0) hB hsz' mono (fun i o hi ho A W hW hk he=>step i o hi (by simpa using ho) A W ((Below.refl _ w).drew.trans hW) hk he)
  (fun A W hs hd hW hk hV=>by
   have e:A=kD l.toArray (fun i=>A.eval (.tmp (aI l.toArray i))) (List.range n) a0:=by
    refine uX (by rw [nH,hs]) (by rw [kM,hd]) fun k=>?_
    by_cases h:∃ i,i<n/\aI l.toArray i=k
    ·obtain ⟨i,hi,rfl⟩:=h
     rw [nI _ _ _ List.nodup_range (fun i hi j hj=>hap i (List.mem_range.1 hi) j (List.mem_range.1 hj)) (fun i hi=>hsz' i (List.mem_range.1 hi)) i (List.mem_range.2 hi)]
    ·have h':∀ i,i<n->aI l.toArray i≠k:=fun i hi e=>h ⟨i,hi,e⟩
     rw [jT _ _ _ _ (fun i hi=>h' i (List.mem_range.1 hi)),hk k h']
   have ht:=tail (fun i=>A.eval (.tmp (aI l.toArray i))) W ((Below.refl _ w).drew.trans hW) hV;rw [<- e] at ht
   simpa using ht)
  n (Array.replicate l.toArray.size false) a0 w.drew ⟨inv0,Below.refl _ _,rfl,rfl,fun _ _=>rfl,fun i _ hl=>(by rw [getD_replicate_false] at hl;cases hl)⟩ c0
 rw [show n+(l.toArray.size - n)=l.toArray.size by omega] at H;exact H
end
def pick (vl:List (Value->World->Prop)) (i:Nat) (u:Value) (w:World):Prop:=(vl.getD i fun _ _=>True) u w
def yc (p:Value->World->Prop):Prop:=∀ u w w',p u w->Below w.heap.size w w' -> p u w'
theorem Br {vl:List (Value->World->Prop)} (h:∀ p ∈ vl,yc p) (i:Nat) (u:Value) (w w':World) (hp:pick vl i u w) (hb:Below w.heap.size w w'):pick vl i u w':=by
 unfold pick at hp ⊢;rw [List.getD_eq_getElem?_getD] at hp ⊢;cases hi:vl[i]? with
 | none=>simp
 | some p=>rw [hi] at hp;exact h p (List.mem_of_getElem? hi) u w w' hp hb
def aV (x:Value):Value->World->Prop:=fun u _=>u=x
theorem eH (x:Value):yc (aV x):=fun _ _ _ h _=>h
def uh (t:TypeId) (n:Nat) (cs:Array Value):Value->World->Prop:=fun u w=>∃ g,u = .slice (some ⟨g,0,none⟩) n n/\Sits w g t cs
theorem rY (t:TypeId) (n:Nat) (cs:Array Value):yc (uh t n cs):=fun _ _ _ ⟨g,hu,hs⟩ hb=>⟨g,hu,hs.below hb hs.lt⟩
theorem edge {P:Nat->Prop} {es:Array Edge} (he:∀ e ∈ es,Region.binds .any e=true->P e.on) (j:Nat) (h:(es.any fun e=>e.on == j && Region.binds .any e)=true):P j:=by
 obtain ⟨e,hm,hb⟩:=Array.any_eq_true'.1 h;simp only [Bool.and_eq_true,beq_iff_eq] at hb
 have:=he e hm hb.2
 rwa [hb.1] at this
def gZ:List Nat->(Nat->Value)->Nat->Act->Act
 | [],_,_,a=>a
 | d :: l,xs,i,a=>gZ l xs (i+1) (a.put (some d) (xs i))
theorem yo (ops:Array Oper) (xs:Nat->Value):∀ (ds:List Nat) (k:Nat) (a:Act),(∀ i,i<ds.length->aI ops (k+i)=ds.getD i 0)->gZ ds xs k a=kD ops xs (List.range' k ds.length) a:=by
 intro ds;induction ds with
 | nil=>intro k a _;rfl
 | cons d ds ih =>
  intro k a h;simp only [gZ,List.length_cons,List.range'_succ,kD]
  have h0:aI ops k=d:=by simpa using h 0 (by simp)
  rw [h0,ih (k+1) _ (fun i hi=>by
   have:=h (i+1) (by simp;omega);rw [show k+(i+1)=k+1+i by omega] at this
   simpa using this)]
theorem aU (A:Act) (k:Nat):A.eval (.tmp k)=A.tmps[k]?.getD undef:=by
 simp only [Act.eval];rw [Array.getD_eq_getD_getElem?]
theorem nJ {P:Program} {Q:Exit->Act->World->Prop} {id:Nat} {l:List Oper} (ds:List Nat) (vl:List (Value->World->Prop)) {a0:Act} {w:World} (hm:P.follows .mixedOrders=true) (hB:okB l.toArray ds.length=true)
  (hd:((List.range ds.length).all fun i=>aI l.toArray i == ds.getD i 0)=true) (hsz:(ds.all fun d=>decide (d<a0.tmps.size))=true) (mono:∀ p ∈ vl,yc p)
  (step:∀ i o,i<ds.length->l[i]? = some o->∀ (A:Act) (W:World),Below w.heap.size w W->(∀ k,(ds.all fun d=>d != k)=true->A.tmps[k]?.getD undef=a0.tmps[k]?.getD undef) ->
   (∀ j,(o.after.any fun e=>e.on == j && Region.binds .any e)=true->pick vl j (A.tmps[ds.getD j 0]?.getD undef) W)->Yields P (fun u W'=>pick vl i u W' /\ Below W.heap.size W W') ((execOp A.eval o).run P W))
  (tail:∀ (xs:Nat->Value) (W:World),Below w.heap.size w W->(∀ i,i<ds.length->pick vl i (xs i) W)->wpList P l.toArray Q (l.drop ds.length) (gZ ds xs 0 a0) W) :
  (Code.region id l.toArray true).wp P Q a0 w:=by
 have hdst:∀ i,i<ds.length->aI l.toArray i=ds.getD i 0:=fun i hi=>by simpa using List.all_eq_true.1 hd i (List.mem_range.2 hi)
 have hmem:∀ i,i<ds.length->ds.getD i 0 ∈ ds:=fun i hi=>by rw [List.getD_eq_getElem?_getD,List.getElem?_eq_getElem hi];exact List.getElem_mem hi
 refine yX ds.length (pick vl) hm hB ?_ (Br mono) ?_ ?_
 ·refine List.all_eq_true.2 fun i hi=>?_
  rw [hdst i (List.mem_range.1 hi)];exact List.all_eq_true.1 hsz _ (hmem i (List.mem_range.1 hi))
 ·intro i o hi ho A W hW hk he
  refine step i o hi ho A W hW (fun k hkk=>?_) (fun j hj=>?_)
  ·rw [<- aU,<- aU]
   refine hk k fun i hi e=>?_
   rw [hdst i hi] at e;have:=List.all_eq_true.1 hkk _ (hmem i hi);rw [e] at this;simp at this
  ·have h:=edge (P:=fun j=>pick vl j (A.eval (.tmp (aI l.toArray j))) W) he j hj
   rw [aU] at h;have hB2:=hB;simp only [okB,Bool.and_eq_true] at hB2
   have hlt:j<ds.length:=by
    have h2:=List.all_eq_true.1 hB2.2 i (List.mem_range.2 hi);rw [show l.toArray[i]? = some o by simpa using ho] at h2;simp only [Bool.and_eq_true] at h2
    obtain ⟨e,hm,hb⟩:=Array.any_eq_true'.1 hj;simp only [Bool.and_eq_true,beq_iff_eq] at hb
    have:=Array.all_eq_true'.1 h2.1.2 e hm;simp [hb.2] at this
    omega
   rw [hdst j hlt] at h;exact h
 ·intro xs W hW hV
  have e:=yo l.toArray xs ds 0 a0 (fun i hi=>by rw [Nat.zero_add];exact hdst i hi);rw [<- List.range_eq_range'] at e;rw [<- e];exact tail xs W hW hV
def Ed (ops:Array Oper) (n:Nat):Bool :=
 decide (n<ops.size) && Region.sinkB .any ops n && Region.chainB .any ops n && Region.seqB .any ops (ops.size - n) n ((List.range ops.size).map fun i=>decide (i<n)).toArray &&
  (List.range n).all fun i=>match ops[i]? with
   | some o=>o.dst.isSome && (o.after.all fun e=>!Region.binds .any e || decide (e.on<i)) &&
     (List.range n).all fun j=>decide (j=i) || match ops[j]? with
      | some o'=>o'.dst != o.dst
      | none=>false
   | none=>false
section
variable {P : Program} {ops : Array Oper} {n : Nat} {a0 : Act} {W0 : World} {V : Nat → Value → World → Prop} {Q : Exit → Act → World → Prop}
theorem CW (hB:Ed ops n=true) (hsz:∀ i,i<n->aI ops i<a0.tmps.size)
  (mono:∀ i u w w',V i u w->Below w.heap.size w w' -> V i u w')
  (step:∀ i o,i<n->ops[i]? = some o->∀ (A:Act) (w:World),Below W0.heap.size W0 w->(∀ k,(∀ i,i<n->aI ops i≠k)->A.eval (.tmp k)=a0.eval (.tmp k)) ->
   (∀ e ∈ o.after,Region.binds .any e=true->V e.on (A.eval (.tmp (aI ops e.on))) w)->(Region.wanted o (yielded ops A.tmps)=true/\Yields P (fun u w'=>V i u w' /\ Below w.heap.size w w') ((execOp A.eval o).run P w)) \/ (Region.wanted o (yielded ops A.tmps)=false/\V i undef w))
  (tail:∀ (A:Act) (w:World),A.tmps.size=a0.tmps.size->A.defers=a0.defers->Below W0.heap.size W0 w->(∀ k,(∀ i,i<n->aI ops i≠k)->A.eval (.tmp k)=a0.eval (.tmp k)) ->
   (∀ i,i<n->V i (A.eval (.tmp (aI ops i))) w)->wpList P ops Q (ops.toList.drop n) A w) :
  ∀ (f:Nat) (listed:Array Bool) (A:Act) (w:World),Going ops n a0 W0 V listed A w->(List.range n).countP (fun j=>!listed.getD j true)=f->wpAny P .any ops Q (f+(ops.size - n)) listed A w:=by
 simp only [Ed,Bool.and_eq_true,decide_eq_true_eq] at hB
 obtain ⟨⟨⟨⟨hn,hs⟩,hc⟩,hq⟩,ho⟩:=hB;have each:∀ i,i<n->∃ o d,ops[i]? = some o/\o.dst=some d/\(∀ e ∈ o.after,Region.binds .any e=true->e.on<i)/\∀ j,j<n->j≠i->aI ops j≠d:=by
  intro i hi;have h:=List.all_eq_true.1 ho i (List.mem_range.2 hi);cases hoi:ops[i]? with
  | none=>simp [hoi] at h
  | some o =>
   simp only [hoi,Bool.and_eq_true] at h
   obtain ⟨⟨hd,ha⟩,hx⟩:=h;obtain ⟨d,hd⟩:=Option.isSome_iff_exists.1 hd;refine ⟨o,d,rfl,hd,fun e he hb=>?_,fun j hj hji hjd=>?_⟩
   ·have:=Array.all_eq_true'.1 ha e he
    simpa [hb] using this
   ·have:=List.all_eq_true.1 hx j (List.mem_range.2 hj)
    simp only [hji,decide_false,Bool.false_or] at this
    cases hoj:ops[j]? with
    | none=>simp [hoj] at this
    | some o' =>
     simp only [hoj,bne_iff_ne,ne_eq,hd] at this
     have ho':=List.all_eq_true.1 ho j (List.mem_range.2 hj);simp only [hoj,Bool.and_eq_true] at ho'
     obtain ⟨d',hd'⟩:=Option.isSome_iff_exists.1 ho'.1.1;simp only [aI,hoj,Option.bind_some,hd',Option.getD_some] at hjd
     exact this (by rw [hd',hjd])
 intro f;induction f with
 | zero =>
  intro listed A w hg hcount;have all:∀ i,i<n->listed.getD i false=true:=fun i hi=>by
   have:=List.countP_eq_zero.1 hcount i (List.mem_range.2 hi);have:¬ listed.getD i true=false:=by simpa using this
   exact qZ this (by rw [hg.head.size];omega)
  have e:listed=((List.range ops.size).map fun i=>decide (i<n)).toArray:=by
   apply Array.ext
   ·simp [hg.head.size]
   ·intro i h1 h2
    have h1':i<ops.size:=by rw [<- hg.head.size];exact h1
    by_cases hi:i<n
    ·have:=all i hi
     rw [Array.getD_eq_getD_getElem?,Array.getElem?_eq_getElem h1] at this;simpa [hi] using this
    ·have:=hg.head.tail i (by omega) h1'
     rw [Array.getD_eq_getD_getElem?,Array.getElem?_eq_getElem h1] at this;simpa [hi] using this
  have ht:=tail A w hg.size hg.defers hg.low hg.other (fun i hi=>hg.has i hi (all i hi));have:=wpAny_of_seq (md:=.any) (Q':=Q) (ops.toList.drop n) n listed A w (fun j=>by simp [List.getElem?_drop]) (by rw [List.length_drop,Array.length_toList,e];exact hq) ht;rw [List.length_drop,Array.length_toList] at this
  rwa [Nat.zero_add]
 | succ f ih =>
  intro listed A w hg hcount;rw [show f+1+(ops.size - n)=(f+(ops.size - n))+1 by omega]
  -- the first that has not come up may come up
  have some1:∃ i,i<n/\listed.getD i true=false:=by
   apply Classical.byContradiction;intro hno;have:(List.range n).countP (fun j=>!listed.getD j true)=0:=by
    rw [List.countP_eq_zero];intro j hj;have:¬ listed.getD j true=false:=fun h=>hno ⟨j,List.mem_range.1 hj,h⟩
    simpa using this
   omega
  have least:∀ i,i<n->listed.getD i true=false->∃ j ∈ Region.ready .any ops listed,j<n:=by
   intro i;induction i using Nat.strongRecOn with
   | _ i Qk =>
    intro hi hu;obtain ⟨o,d,hoi,_,ha,_⟩:=each i hi;by_cases hall:∀ e ∈ o.after,Region.binds .any e=true->listed.getD e.on false=true
    ·exact ⟨i,mem_ready.2 ⟨hu,o,hoi,hall⟩,hi⟩
    ·simp only [Classical.not_forall] at hall
     obtain ⟨e,he,hb,hl⟩:=hall;have hlt:=ha e he hb;exact Qk e.on hlt (by omega) (oL (by simpa using hl) (by rw [hg.head.size];omega))
  obtain ⟨i1,hi1,hu1⟩:=some1;obtain ⟨j1,hj1,_⟩:=least i1 hi1 hu1;refine ⟨fun h0=>(by rw [h0] at hj1;cases hj1),fun i hi=>?_⟩;have hin:i<n:=by
   rcases Nat.lt_or_ge i n with h | h
   ·exact h
   ·exact absurd hi (tail_waits hs hc hn hg.head _ i1 rfl hi1 hu1 i h)
  obtain ⟨LU,oi,hoi,hall⟩:=mem_ready.1 hi;obtain ⟨o,d,GK,hd,ha,hap⟩:=each i hin;obtain rfl:=Option.some.inj (hoi.symm.trans GK);have hdi:aI ops i=d:=by simp [aI,hoi,hd]
  have hdz:d<A.tmps.size:=by rw [hg.size,<- hdi];exact hsz i hin
  have hy:=step i oi hin hoi A w hg.low hg.other (fun e he hb=>hg.has e.on (by have:=ha e he hb;omega) (hall e he hb));have go:∀ v w',V i v w' -> Below w.heap.size w w' -> wpAny P .any ops Q (f+(ops.size - n)) (listed.setIfInBounds i true) (A.put (some d) v) w':=fun v w' hv hb=>by
   refine ih _ _ _ ⟨hg.head.set hi hin,hg.low.trans (hb.mono hg.low.size),by simp [Act.put,hg.size],hg.defers,fun k hk=>?_,fun j hj hl=>?_⟩ ?_
   ·rw [eval_put _ _ _ _ (fun e=>hk i hin (hdi.trans e.symm))];exact hg.other k hk
   ·by_cases hji:j=i
    ·subst hji;rw [hdi,eval_put_same _ _ _ hdz];exact hv
    ·rw [eval_put _ _ _ _ (hap j hj hji)]
     rw [getD_set_ne false (Ne.symm hji)] at hl;exact mono _ _ _ _ (hg.has j hj hl) hb
   ·have hsz:i<listed.size:=by rw [hg.head.size];omega
    have hc2:=mD (p:=fun j=>!listed.getD j true) (q:=fun j=>!(listed.setIfInBounds i true).getD j true) (i:=i) (by simp only [LU];rfl) (by
     rw [Array.getD_eq_getD_getElem?,Array.getElem?_setIfInBounds_self_of_lt hsz];rfl) (fun j hj=>by rw [getD_set_ne true (Ne.symm hj)]) (List.range n) List.nodup_range (List.mem_range.2 hin)
    omega
  unfold wpOp;simp only [hoi]
  rcases hy with ⟨hwt,hy⟩ | ⟨hwt,hv⟩
  ·rw [if_pos hwt]
   refine .inl (uW hy fun v w' ⟨hv,hb⟩=>?_);rw [hd];exact go v w' hv hb
  ·rw [if_neg (by rw [hwt];exact Bool.false_ne_true),hd]
   exact go undef w hv (Below.refl _ _)
end
theorem oM {P:Program} {Q:Exit->Act->World->Prop} {id:Nat} {l:List Oper} (ds:List Nat) (vl:List (Value->World->Prop)) {a0:Act} {w:World} (hm:P.follows .mixedOrders=true) (hB:Ed l.toArray ds.length=true)
  (hd:((List.range ds.length).all fun i=>aI l.toArray i == ds.getD i 0)=true) (hnd:((List.range ds.length).all fun i=>(List.range ds.length).all fun j=>decide (j=i) || ds.getD j 0 != ds.getD i 0)=true) (hsz:(ds.all fun d=>decide (d<a0.tmps.size))=true) (mono:∀ p ∈ vl,yc p)
  (step:∀ i o,i<ds.length->l[i]? = some o->∀ (A:Act) (W:World),Below w.heap.size w W->(∀ k,(ds.all fun d=>d != k)=true->A.tmps[k]?.getD undef=a0.tmps[k]?.getD undef) ->
   (∀ j,(o.after.any fun e=>e.on == j && Region.binds .any e)=true->pick vl j (A.tmps[ds.getD j 0]?.getD undef) W) ->
   (Region.wanted o (yielded l.toArray A.tmps)=true/\Yields P (fun u W'=>pick vl i u W' /\ Below W.heap.size W W') ((execOp A.eval o).run P W)) \/ (Region.wanted o (yielded l.toArray A.tmps)=false/\pick vl i undef W))
  (tail:∀ (xs:Nat->Value) (W:World),Below w.heap.size w W->(∀ i,i<ds.length->pick vl i (xs i) W)->wpList P l.toArray Q (l.drop ds.length) (gZ ds xs 0 a0) W) :
  (Code.region id l.toArray true).wp P Q a0 w:=by
 have hdst:∀ i,i<ds.length->aI l.toArray i=ds.getD i 0:=fun i hi=>by simpa using List.all_eq_true.1 hd i (List.mem_range.2 hi)
 have hmem:∀ i,i<ds.length->ds.getD i 0 ∈ ds:=fun i hi=>by rw [List.getD_eq_getElem?_getD,List.getElem?_eq_getElem hi];exact List.getElem_mem hi
 have hap:∀ i,i<ds.length->∀ j,j<ds.length->j≠i->aI l.toArray j≠aI l.toArray i:=fun i hi j hj hji e=>by
  rw [hdst i hi,hdst j hj] at e;have h:=List.all_eq_true.1 (List.all_eq_true.1 hnd i (List.mem_range.2 hi)) j (List.mem_range.2 hj);rw [e] at h;simp [hji] at h
 have hsz':∀ i,i<ds.length->aI l.toArray i<a0.tmps.size:=fun i hi=>by
  rw [hdst i hi];simpa using List.all_eq_true.1 hsz _ (hmem i hi)
 have hB2:=hB;simp only [Ed,Bool.and_eq_true,decide_eq_true_eq] at hB2
 have hn:=hB2.1.1.1.1;refine wp_region_any hm ?_;have inv0:HeadInv .any l.toArray ds.length (Array.replicate l.toArray.size false) :=
  ⟨by simp,fun j oj _ hl=>(by rw [getD_replicate_false] at hl;cases hl),fun t _ ht=>getD_in (by simpa using ht) (getD_replicate_false _ _)⟩
 have c0:(List.range ds.length).countP (fun j=>!(Array.replicate l.toArray.size false).getD j true)=ds.length:=by
  have:∀ j ∈ List.range ds.length,(!(Array.replicate l.toArray.size false).getD j true)=true:=fun j hj=>by
   rw [getD_in (by have:=List.mem_range.1 hj;simp at hn ⊢;omega) (getD_replicate_false _ _)];rfl
  rw [List.countP_eq_length.2 this,List.length_range]
 have H:=CW (P:=P) (Q:=Q) (ops:=l.toArray) (W0:=w.drew) (V:=pick vl) (a0:=a0) hB hsz' (Br mono) (fun i o hi ho A W hW hk he=>by
   refine step i o hi (by simpa using ho) A W ((Below.refl _ w).drew.trans hW) (fun k hkk=>?_) (fun j hj=>?_)
   ·rw [<- aU,<- aU]
    refine hk k fun i hi e=>?_
    rw [hdst i hi] at e;have:=List.all_eq_true.1 hkk _ (hmem i hi);rw [e] at this;simp at this
   ·have h:=edge (P:=fun j=>pick vl j (A.eval (.tmp (aI l.toArray j))) W) he j hj
    rw [aU] at h;have hlt:j<ds.length:=by
     have h2:=List.all_eq_true.1 hB2.2 i (List.mem_range.2 hi);rw [show l.toArray[i]? = some o by simpa using ho] at h2;simp only [Bool.and_eq_true] at h2
     obtain ⟨e,hm,hb⟩:=Array.any_eq_true'.1 hj;simp only [Bool.and_eq_true,beq_iff_eq] at hb
     have:=Array.all_eq_true'.1 h2.1.2 e hm;simp [hb.2] at this
     omega
    rw [hdst j hlt] at h
    exact h)
  (fun A W hs hd' hW hk hV=>by
   have e:A=gZ ds (fun i=>A.eval (.tmp (aI l.toArray i))) 0 a0:=by
    rw [yo l.toArray _ ds 0 a0 (fun i hi=>by rw [Nat.zero_add];exact hdst i hi),<- List.range_eq_range'];refine uX (by rw [nH,hs]) (by rw [kM,hd']) fun k=>?_
    by_cases h:∃ i,i<ds.length/\aI l.toArray i=k
    ·obtain ⟨i,hi,rfl⟩:=h
     rw [nI _ _ _ List.nodup_range (fun i hi j hj=>hap i (List.mem_range.1 hi) j (List.mem_range.1 hj)) (fun i hi=>hsz' i (List.mem_range.1 hi)) i (List.mem_range.2 hi)]
    ·have h':∀ i,i<ds.length->aI l.toArray i≠k:=fun i hi e=>h ⟨i,hi,e⟩
     rw [jT _ _ _ _ (fun i hi=>h' i (List.mem_range.1 hi)),hk k h']
   have ht:=tail (fun i=>A.eval (.tmp (aI l.toArray i))) W ((Below.refl _ w).drew.trans hW) hV;rw [<- e] at ht
   simpa using ht)
  ds.length (Array.replicate l.toArray.size false) a0 w.drew ⟨inv0,Below.refl _ _,rfl,rfl,fun _ _=>rfl,fun i _ hl=>(by rw [getD_replicate_false] at hl;cases hl)⟩ c0
 rw [show ds.length+(l.toArray.size - ds.length)=l.toArray.size by omega] at H;exact H
theorem yY {ops:Array Oper} {t:Array Value} {j d:Nat} {b:Bool} (hd:(ops[j]?).bind (·.dst)=some d) (hv:t[d]?.getD undef = .bool b):yielded ops t j=some b:=by
 unfold yielded;rw [hd];cases h:t[d]? with
 | none=>rw [h] at hv;simp [undef] at hv
 | some v=>rw [h] at hv;simp only [Option.getD_some] at hv;subst hv;simp [h]
theorem aD {ops:Array Oper} {o:Oper} {A:Act} {j d:Nat} {b:Bool} (hg:o.guard=some (j,b)) (hd:(ops[j]?).bind (·.dst)=some d) (hv:A.tmps[d]?.getD undef = .bool b):Region.wanted o (yielded ops A.tmps)=true:=by
 unfold Region.wanted;rw [hg];simp [yY hd hv]
theorem mf {ops:Array Oper} {o:Oper} {A:Act} {j d:Nat} {b:Bool} (hg:o.guard=some (j,b)) (hd:(ops[j]?).bind (·.dst)=some d) (hv:A.tmps[d]?.getD undef = .bool (!b)):Region.wanted o (yielded ops A.tmps)=false:=by
 unfold Region.wanted;rw [hg];simp [yY hd hv]
theorem gz {ops:Array Oper} {o:Oper} {A:Act} (hg:o.guard=none):Region.wanted o (yielded ops A.tmps)=true:=by
 unfold Region.wanted;rw [hg]
end Go.Proofs.YtaanhmndeobgbaaGreatDoor.ae
