/- Part 40 of the proof: what is used of the texts FlowM, FlowD. -/
import Derived.Test.YtaanhmndeobgbaaGreatDoorGB2
import Derived.LoopN
namespace Go.Proofs.YtaanhmndeobgbaaGreatDoor.ae
open Go.RowKit Mem
def nT (P:Program) (Y:Value->World->Prop):Result Next->Prop
 | .ok (.value v) w=>Y v w
 | .ok .skip w=>Y undef w
 | .ok (.enter f args) w=>Calls P f args w fun e w'=>∃ v,e = .returned v/\Y v w'
 | _=>False
theorem Ba {P:Program} {o:Oper} {a:Act} {w:World} {K:Act->World->Prop} {Q:Exit->Act->World->Prop} {Y:Value->World->Prop}
  (h:nT P Y ((execOp a.eval o).run P w)) (hk:∀ v w',Y v w' -> K (a.put o.dst v) w'):o.wp P a w K Q:=by
 unfold Oper.wp;generalize (execOp a.eval o).run P w=r at h ⊢;cases r with
 | ok n w' =>
  cases n <;> simp only [nT] at h <;> simp only [Oper.upon]
  case value v=>exact hk v w' h
  case skip=>exact hk undef w' h
  case enter f args=>exact h.mono fun e w'' ⟨v,he,hy⟩=>by subst he;exact hk v w'' hy
 | halt x w'=>simp only [nT] at h
def bR (ds:List (Option Nat)) (i:Nat):Option Nat:=(ds.getD i none)
def waits (ops:Array Oper) (k i:Nat):Bool:=match ops[k]? with
 | some o=>o.after.any fun e=>e.on == i && Region.binds .any e
 | none=>false
def okM (ops:Array Oper) (ds:List (Option Nat)) (ws DX:List Nat):Bool :=
 decide (ds.length=ops.size) &&
 ((List.range ops.size).all fun i=>match ops[i]? with
  | some o=>o.dst == bR ds i && (o.after.all fun e=>!Region.binds .any e || decide (e.on<i))
  | none=>false) &&
 ((List.range ops.size).all fun i=>(List.range ops.size).all fun j=>decide (j=i) || (bR ds i).isNone || bR ds j != bR ds i) &&
 ((List.range ws.length).all fun m=>(List.range ws.length).all fun m'=>decide (m' = m) || ws.getD m' 0 != ws.getD m 0) &&
 ((List.range ws.length).all fun m=>decide (m=0) || waits ops (ws.getD m 0) (ws.getD (m - 1) 0)) &&
 ((List.range ops.size).all fun i=>ws.contains i || decide (ws.length<=DX.getD i 0) || waits ops (ws.getD (DX.getD i 0) 0) i)
def sV:List (Option Nat)->(Nat->Value)->Nat->Act->Act
 | [],_,_,a=>a
 | d :: l,xs,i,a=>sV l xs (i+1) (a.put d (xs i))
section
variable {P : Program} {ops : Array Oper} {ds : List (Option Nat)} {ws DX : List Nat} {vl : List (Value → World → Prop)} {M : Nat → World → Prop} {a0 : Act} {B : Nat} {Q : Exit → Act → World → Prop}
structure DY (ops:Array Oper) (ds:List (Option Nat)) (ws:List Nat) (vl:List (Value->World->Prop)) (M:Nat->World->Prop) (a0:Act) (B:Nat) (done:Nat->Bool) (j:Nat) (A:Act) (w:World):Prop where
 size:A.tmps.size=a0.tmps.size
 defers:A.defers=a0.defers
 low:B<=w.heap.size
 mem:M j w
 other:∀ k,(∀ i,i<ops.size->bR ds i≠some k)->A.eval (.tmp k)=a0.eval (.tmp k)
 has:∀ i d,i<ops.size->done i=true->bR ds i=some d->pick vl i (A.eval (.tmp d)) w
 stage:∀ m,m<ws.length->(done (ws.getD m 0)=true ↔ m<j)
 most:j<=ws.length
theorem Af (A:Act) (d:Option Nat) (v:Value):(A.put d v).tmps.size=A.tmps.size:=by cases d <;> simp [Act.put]
theorem put_defers (A:Act) (d:Option Nat) (v:Value):(A.put d v).defers=A.defers:=by cases d <;> rfl
theorem xg (A:Act) (d:Option Nat) (k:Nat) (v:Value) (h:d≠some k):(A.put d v).eval (.tmp k)=A.eval (.tmp k):=by
 cases d with
 | none=>rfl
 | some d=>exact eval_put A d k v (fun e=>h (by rw [e]))
theorem DY.all {done:Nat->Bool} {j:Nat} {A:Act} {w:World} (h:DY ops ds ws vl M a0 B done j A w) (hdl:ds.length=ops.size) (hall:∀ i,i<ops.size->done i=true)
  (hap:∀ a b,a<ops.size->b<ops.size->b≠a->bR ds a≠none->bR ds b≠bR ds a) (hsz:∀ a d,a<ops.size->bR ds a=some d->d<a0.tmps.size) (hws:∀ m,m<ws.length->ws.getD m 0<ops.size) :
  j=ws.length/\A=sV ds (fun i=>match bR ds i with | some d=>A.eval (.tmp d) | none=>undef) 0 a0:=by
 refine ⟨?_,?_⟩
 ·rcases Nat.lt_or_ge j ws.length with hj | hj
  ·have:=(h.stage j hj).1 (hall _ (hws j hj));omega
  ·have:=h.most;omega
 ·have key:∀ (xs:Nat->Value) (l:List (Option Nat)) (k:Nat) (a:Act),a.tmps.size=a0.tmps.size->k+l.length=ops.size->(∀ i,k<=i->i<ops.size->l.getD (i - k) none=bR ds i) ->
    (sV l xs k a).tmps.size=a.tmps.size/\(sV l xs k a).defers=a.defers/\(∀ d,(∀ i,k<=i->i<ops.size->bR ds i≠some d)->(sV l xs k a).eval (.tmp d)=a.eval (.tmp d)) /\
     (∀ i d,k<=i->i<ops.size->bR ds i=some d->(sV l xs k a).eval (.tmp d)=xs i):=by
   intro xs l;induction l with
   | nil=>intro k a _ hk _;exact ⟨rfl,rfl,fun _ _=>rfl,fun i d h1 h2=>absurd h2 (by simp at hk;omega)⟩
   | cons d0 l ih =>
    intro k a hs hk hl;have e0:bR ds k=d0:=by have:=hl k (Nat.le_refl _) (by simp at hk;omega);simpa using this.symm
    obtain ⟨i1,i2,i3,i4⟩:=ih (k+1) (a.put d0 (xs k)) (by rw [Af];exact hs) (by simp at hk;omega) (fun i h1 h2=>by
     have:=hl i (by omega) h2
     rwa [show i - k=(i - (k+1))+1 by omega,List.getD_cons_succ] at this)
    have hkl:k<ops.size:=by simp at hk;omega
    refine ⟨by rw [sV,i1,Af],by rw [sV,i2,put_defers],fun d hd=>?_,fun i d h1 h2 h3=>?_⟩
    ·rw [sV,i3 d (fun i h1 h2=>hd i (by omega) h2),xg _ _ _ _ (by rw [<- e0];exact hd k (Nat.le_refl _) hkl)]
    ·by_cases e:i=k
     ·subst e
      rw [sV,i3 d (fun i' h1' h2' e'=>by
       have:=hap i i' hkl h2' (by omega) (by rw [h3];exact fun h=>by cases h);rw [e',h3] at this
       exact this rfl),<- e0,h3,eval_put_same _ _ _ (by rw [hs];exact hsz i d hkl h3)]
     ·rw [sV];exact i4 i d (by omega) h2 h3
  obtain ⟨k1,k2,k3,k4⟩:=key (fun i=>match bR ds i with | some d=>A.eval (.tmp d) | none=>undef) ds 0 a0 rfl (by rw [hdl];omega) (fun i _ _=>by rw [Nat.sub_zero];rfl);refine uX (by rw [k1,h.size]) (by rw [k2,h.defers]) fun k=>?_
  by_cases hk:∃ i,i<ops.size/\bR ds i=some k
  ·obtain ⟨i,hi,hs⟩:=hk
   rw [k4 i k (Nat.zero_le _) hi hs];simp only [hs]
  ·rw [k3 k (fun i _ hi hs=>hk ⟨i,hi,hs⟩)]
   exact h.other k (fun i hi hs=>hk ⟨i,hi,hs⟩)
structure YC (ops:Array Oper) (ds:List (Option Nat)) (ws DX:List Nat):Prop where
 len:ds.length=ops.size
 slot:∀ i o,ops[i]? = some o->o.dst=bR ds i
 back:∀ i o,ops[i]? = some o->∀ e ∈ o.after,Region.binds .any e=true->e.on<i
 apart:∀ a b,a<ops.size->b<ops.size->b≠a->bR ds a≠none->bR ds b≠bR ds a
 once:∀ m m',m<ws.length->m' < ws.length->m' ≠ m->ws.getD m' 0≠ws.getD m 0
 chain:∀ m,m<ws.length->0<m->waits ops (ws.getD m 0) (ws.getD (m - 1) 0)=true
 lim:∀ i,i<ops.size->ws.contains i=false->ws.length<=DX.getD i 0 \/ waits ops (ws.getD (DX.getD i 0) 0) i=true
theorem Rk (h:okM ops ds ws DX=true):YC ops ds ws DX:=by
 simp only [okM,Bool.and_eq_true,decide_eq_true_eq] at h
 obtain ⟨⟨⟨⟨⟨h1,h2⟩,h3⟩,h4⟩,h5⟩,h6⟩:=h;have hs:∀ i o,ops[i]? = some o->o.dst=bR ds i/\∀ e ∈ o.after,Region.binds .any e=true->e.on<i:=fun i o ho=>by
  have hi:i<ops.size:=(Array.getElem?_eq_some_iff.1 ho).1;have:=List.all_eq_true.1 h2 i (List.mem_range.2 hi);rw [ho] at this;simp only [Bool.and_eq_true,beq_iff_eq] at this
  refine ⟨this.1,fun e he hb=>?_⟩;have:=Array.all_eq_true'.1 this.2 e he;simpa [hb] using this
 refine ⟨h1,fun i o ho=>(hs i o ho).1,fun i o ho=>(hs i o ho).2,fun a b ha hb hne hn he=>?_,fun m m' hm hm' hne he=>?_,fun m hm h0=>?_,fun i hi hc=>?_⟩
 ·have:=List.all_eq_true.1 (List.all_eq_true.1 h3 a (List.mem_range.2 ha)) b (List.mem_range.2 hb)
  rw [he] at this;simp only [hne,decide_false,Bool.false_or,bne_self_eq_false,Bool.or_false,Option.isNone_iff_eq_none] at this
  exact hn this
 ·have:=List.all_eq_true.1 (List.all_eq_true.1 h4 m (List.mem_range.2 hm)) m' (List.mem_range.2 hm')
  rw [he] at this;simp [hne] at this
 ·have:=List.all_eq_true.1 h5 m (List.mem_range.2 hm)
  simpa [show m≠0 by omega] using this
 ·have:=List.all_eq_true.1 h6 i (List.mem_range.2 hi)
  rw [hc] at this;simpa using this
end
section
variable {P : Program} {ops : Array Oper} {ds : List (Option Nat)} {ws DX : List Nat} {vl : List (Value → World → Prop)} {M : Nat → World → Prop} {a0 : Act} {B : Nat} {Q : Exit → Act → World → Prop}
theorem Io {listed:Array Bool} {i:Nat} (h:listed.getD i true=false) (h2:listed.getD i false=true):listed.getD i false=false:=by
 rw [Array.getD_eq_getD_getElem?] at h h2 ⊢;cases hi:listed[i]? with
 | none=>rfl
 | some b=>rw [hi] at h h2;simp at h h2;rw [h] at h2;cases h2
theorem Lg {listed:Array Bool} {i:Nat} (h:listed.getD i true=false) (hi:i<listed.size):listed.getD i false=false:=by
 simp [hi] at h ⊢;exact h
end
theorem OQ {ds:List (Option Nat)} {n:Nat} {a0 A:Act} (hl:ds.length=n) (ho:∀ k,(∀ i,i<n->bR ds i≠some k)->A.eval (.tmp k)=a0.eval (.tmp k)) :
  ∀ k,(ds.all fun d=>d != some k)=true->A.tmps[k]?.getD undef=a0.tmps[k]?.getD undef:=fun k hk=>by
 rw [<- aU,<- aU];refine ho k fun i hi e=>?_
 have hm:ds.getD i none ∈ ds:=by rw [List.getD_eq_getElem?_getD,List.getElem?_eq_getElem (by omega)];exact List.getElem_mem _
 have:=List.all_eq_true.1 hk _ hm;unfold bR at e;rw [e] at this;simp at this
theorem Rl {ds:List (Option Nat)} {n:Nat} {a0:Act} (hl:ds.length=n) (hsz:(ds.all fun d=>match d with | some d=>decide (d<a0.tmps.size) | none=>true)=true):∀ a d,a<n->bR ds a=some d->d<a0.tmps.size:=fun a d ha hs=>by
 have hm:ds.getD a none ∈ ds:=by rw [List.getD_eq_getElem?_getD,List.getElem?_eq_getElem (by omega)];exact List.getElem_mem _
 have:=List.all_eq_true.1 hsz _ hm;unfold bR at hs;rw [hs] at this;simpa using this
def rR (ds:List (Option Nat)) (A:Act) (i:Nat):Value:=match bR ds i with
 | some d=>A.eval (.tmp d)
 | none=>undef
def aQ (d:Nat->Bool) (i:Nat):Nat->Bool:=fun k=>d k || k == i
def bz (xs:Nat->Value) (i:Nat) (u:Value):Nat->Value:=fun k=>if k=i then u else xs k
section
variable {P : Program} {ops : Array Oper} {ds : List (Option Nat)} {Inv : (Nat → Bool) → (Nat → Value) → World → Prop} {a0 : Act} {Q : Exit → Act → World → Prop}
theorem Lh (hB:YC ops ds [] []) {A:Act} {i:Nat} {v:Value} (hi:i<ops.size) (hsz:∀ d,bR ds i=some d->d<A.tmps.size) :
  rR ds (A.put (bR ds i) v)=bz (rR ds A) i (if (ds.getD i none).isSome then v else undef):=by
 funext k
 unfold bz;by_cases e:k=i
 ·subst e
  rw [if_pos rfl];unfold rR;cases h:bR ds k with
  | none =>
   have h':ds.getD k none=none:=h;rw [h'];rfl
  | some d =>
   have h':ds.getD k none=some d:=h;simp only [h',Option.isSome_some,if_true]
   exact eval_put_same _ _ _ (hsz d h)
 ·rw [if_neg e]
  unfold rR;cases h:bR ds k with
  | none=>rfl
  | some d =>
   have hk:k<ops.size:=by
    rcases Nat.lt_or_ge k ds.length with h2 | h2
    ·rw [<- hB.len];exact h2
    ·have:bR ds k=none:=by unfold bR;rw [List.getD_eq_getElem?_getD,List.getElem?_eq_none h2];rfl
     rw [this] at h;cases h
   simp only
   exact xg _ _ _ _ (fun e2=>hB.apart k i hk hi (fun e3=>e e3.symm) (by rw [h];exact fun h=>by cases h) (by rw [e2,h]))
theorem DZ (hB:YC ops ds [] []) (hsz:∀ a d,a<ops.size->bR ds a=some d->d<a0.tmps.size)
  (step:∀ i o,i<ops.size->ops[i]? = some o->∀ (d:Nat->Bool) (A:Act) (W:World),d i=false->(∀ k,(o.after.any fun e=>e.on == k && Region.binds .any e)=true->d k=true)->Inv d (rR ds A) W ->
   (∀ k,(∀ i,i<ops.size->bR ds i≠some k)->A.eval (.tmp k)=a0.eval (.tmp k)) ->
   (Region.wanted o (yielded ops A.tmps)=true/\nT P (fun u W'=>Inv (aQ d i) (bz (rR ds A) i (if (ds.getD i none).isSome then u else undef)) W') ((execOp A.eval o).run P W)))
  (tail:∀ (d:Nat->Bool) (xs:Nat->Value) (W:World),(∀ i,i<ops.size->d i=true)->Inv d xs W->Q .normal (sV ds xs 0 a0) W) :
  ∀ (f:Nat) (listed:Array Bool) (A:Act) (w:World),listed.size=ops.size->DY ops ds [] [] (fun _ _=>True) a0 0 (fun i=>listed.getD i false) 0 A w->Inv (fun i=>listed.getD i false) (rR ds A) w ->
   (List.range ops.size).countP (fun j=>!listed.getD j true)=f->wpAny P .any ops Q f listed A w:=by
 have fin:∀ (listed:Array Bool) (A:Act) (w:World),DY ops ds [] [] (fun _ _=>True) a0 0 (fun i=>listed.getD i false) 0 A w->Inv (fun i=>listed.getD i false) (rR ds A) w->(∀ i,i<ops.size->listed.getD i false=true)->Q .normal A w:=by
  intro listed A w hg hI hall;obtain ⟨_,e⟩:=hg.all hB.len hall hB.apart hsz (fun m h=>by cases h);have ht:=tail _ _ w hall hI;have e2:sV ds (rR ds A) 0 a0=A:=e.symm
  rwa [e2] at ht
 intro f;induction f with
 | zero =>
  intro listed A w hls hg hI hcount;have all:∀ i,i<ops.size->listed.getD i false=true:=fun i hi=>by
   have:=List.countP_eq_zero.1 hcount i (List.mem_range.2 hi);have:¬ listed.getD i true=false:=by simpa using this
   exact qZ this (by omega)
  refine ⟨?_,fin listed A w hg hI all⟩;rw [List.eq_nil_iff_forall_not_mem];intro i hi;obtain ⟨hu,o,ho,_⟩:=mem_ready.1 hi;have Qt:i<ops.size:=(Array.getElem?_eq_some_iff.1 ho).1;have h1:=all i Qt;rw [Io hu h1] at h1;cases h1
 | succ f ih =>
  intro listed A w hls hg hI hcount;have least:∀ i,i<ops.size->listed.getD i true=false->∃ k,k ∈ Region.ready .any ops listed:=by
   intro i;induction i using Nat.strongRecOn with
   | _ i Qk =>
    intro hi hu;obtain ⟨o,hoi⟩:∃ o,ops[i]? = some o:=⟨_,Array.getElem?_eq_getElem hi⟩
    by_cases hall:∀ e ∈ o.after,Region.binds .any e=true->listed.getD e.on false=true
    ·exact ⟨i,mem_ready.2 ⟨hu,o,hoi,hall⟩⟩
    ·simp only [Classical.not_forall] at hall
     obtain ⟨e,he,hb,hl⟩:=hall;have hlt:=hB.back i o hoi e he hb;exact Qk e.on hlt (by omega) (oL (by simpa using hl) (by omega))
  refine ⟨fun h0=>?_,fun i hi=>?_⟩
  ·exfalso
   have:(List.range ops.size).countP (fun j=>!listed.getD j true)=0:=by
    rw [List.countP_eq_zero];intro k hk;intro hk2;obtain ⟨k',hk'⟩:=least k (List.mem_range.1 hk) (by simpa using hk2);rw [h0] at hk';cases hk'
   omega
  obtain ⟨LU,o,hoi,hall⟩:=mem_ready.1 hi;have hin:i<ops.size:=(Array.getElem?_eq_some_iff.1 hoi).1;have huf:listed.getD i false=false:=Lg LU (by omega);have hdone:∀ k,(listed.setIfInBounds i true).getD k false=(listed.getD k false || k == i):=fun k=>by
   by_cases e:k=i
   ·subst e
    rw [Array.getD_eq_getD_getElem?,Array.getElem?_setIfInBounds_self_of_lt (by omega)];simp
   ·rw [getD_set_ne false (Ne.symm e)];simp [e]
  have hcnt:(List.range ops.size).countP (fun k=>!(listed.setIfInBounds i true).getD k true)=f:=by
   have hc2:=mD (p:=fun j=>!listed.getD j true) (q:=fun j=>!(listed.setIfInBounds i true).getD j true) (i:=i) (by simp only [LU];rfl) (by
    rw [Array.getD_eq_getD_getElem?,Array.getElem?_setIfInBounds_self_of_lt (by omega)];rfl) (fun j hj=>by rw [getD_set_ne true (Ne.symm hj)]) (List.range ops.size) List.nodup_range (List.mem_range.2 hin)
   omega
  unfold wpOp;simp only [hoi]
  obtain ⟨hwt,hy⟩:=step i o hin hoi (fun k=>listed.getD k false) A w huf (fun k hk=>by
   obtain ⟨e,he,h2⟩:=Array.any_eq_true'.1 hk;simp only [Bool.and_eq_true,beq_iff_eq] at h2
   obtain ⟨rfl,hb⟩:=h2
   exact hall e he hb) hI hg.other
  rw [if_pos hwt];refine .inl (Ba hy fun v w' hI'=>?_);rw [hB.slot i o hoi];have hd2:(fun k=>(listed.setIfInBounds i true).getD k false)=aQ (fun k=>listed.getD k false) i:=funext hdone;refine ih _ _ _ (by simpa using hls) ?_ ?_ hcnt
  ·refine ⟨by rw [Af];exact hg.size,by rw [put_defers];exact hg.defers,Nat.zero_le _,trivial,fun k hk=>?_,fun a d _ _ _=>by unfold pick;simp,fun m h=>(by cases h),Nat.zero_le _⟩
   rw [xg _ _ _ _ (hk i hin)];exact hg.other k hk
  ·rw [hd2,Lh hB hin (fun d hd=>by rw [hg.size];exact hsz i d hin hd)]
   exact hI'
end
theorem FR {P:Program} {Q:Exit->Act->World->Prop} {id:Nat} {l:List Oper} (ds:List (Option Nat)) (Inv:(Nat->Bool)->(Nat->Value)->World->Prop) {a0:Act} {w:World}
  (hm:P.follows .mixedOrders=true) (hB:okM l.toArray ds [] (ds.map fun _=>0)=true) (hsz:(ds.all fun d=>match d with | some d=>decide (d<a0.tmps.size) | none=>true)=true)
  (h0:∀ xs,Inv (fun _=>false) xs w.drew)
  (step:∀ i o,i<l.length->l[i]? = some o->∀ (d:Nat->Bool) (A:Act) (W:World),d i=false->(∀ k,(o.after.any fun e=>e.on == k && Region.binds .any e)=true->d k=true)->Inv d (rR ds A) W ->
   (∀ k,(ds.all fun d=>d != some k)=true->A.tmps[k]?.getD undef=a0.tmps[k]?.getD undef) ->
   (Region.wanted o (yielded l.toArray A.tmps)=true/\nT P (fun u W'=>Inv (aQ d i) (bz (rR ds A) i (if (ds.getD i none).isSome then u else undef)) W') ((execOp A.eval o).run P W)))
  (tail:∀ (d:Nat->Bool) (xs:Nat->Value) (W:World),(∀ i,i<l.length->d i=true)->Inv d xs W->Q .normal (sV ds xs 0 a0) W) :
  (Code.region id l.toArray true).wp P Q a0 w:=by
 have HB0:=Rk hB;have HB:YC l.toArray ds [] []:=⟨HB0.len,HB0.slot,HB0.back,HB0.apart,HB0.once,HB0.chain,fun i _ _ => .inl (Nat.zero_le _)⟩
 have hsl:=Rl (n:=l.toArray.size) HB.len hsz;refine wp_region_any hm ?_;refine DZ (Inv:=Inv) HB hsl (fun i o hi ho d A W hd hk hI hs=>step i o (by simpa using hi) (by simpa using ho) d A W hd hk hI (OQ HB.len hs)) (fun d xs W hd hI=>tail d xs W (fun i hi=>hd i (by simpa using hi)) hI) _ _ _ _ (by simp) ?_ ?_ ?_
 ·exact ⟨rfl,rfl,Nat.zero_le _,trivial,fun _ _=>rfl,fun i d _ hl=>(by rw [getD_replicate_false] at hl;cases hl),fun m h=>(by cases h),Nat.zero_le _⟩
 ·rw [show (fun i=>(Array.replicate l.toArray.size false).getD i false)=fun _=>false from funext fun i=>getD_replicate_false _ _]
  exact h0 _
 ·have:∀ j ∈ List.range l.toArray.size,(!(Array.replicate l.toArray.size false).getD j true)=true:=fun j hj=>by
   rw [getD_in (by have:=List.mem_range.1 hj;simp at this ⊢;omega) (getD_replicate_false _ _)];rfl
  rw [List.countP_eq_length.2 this,List.length_range]
end Go.Proofs.YtaanhmndeobgbaaGreatDoor.ae
