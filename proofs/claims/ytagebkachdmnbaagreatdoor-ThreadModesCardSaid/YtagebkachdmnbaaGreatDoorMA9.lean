/- Part 10 of the proof: what is used of the texts FlowB, FlowM, FlowD, FlowC. -/
import Derived.Test.YtagebkachdmnbaaGreatDoorMA6
import Derived.LoopN
section
namespace Go.Proofs.YtagebkachdmnbaaGreatDoor.Flow
open Go.RowKit Go.Proofs.YtagebkachdmnbaaGreatDoor.Mem
section
variable {P : Program} {ops : Array Oper} {n : Nat} {a0 : Act} {Inv : (Nat → Bool) → (Nat → Value) → World → Prop} {Q : Exit → Act → World → Prop} {Z : List PanicEntry → World → Prop}
structure GoingS (ops:Array Oper) (n:Nat) (a0:Act) (Inv:(Nat->Bool)->(Nat->Value)->World->Prop) (listed:Array Bool) (A:Act) (w:World):Prop where
  head:HeadInv .any ops n listed
  size:A.tmps.size=a0.tmps.size
  defers:A.defers=a0.defers
  other:∀ k,(∀ i,i<n->dstOf ops i≠k)->A.eval (.tmp k)=a0.eval (.tmp k)
  inv:Inv (fun i=>listed.getD i false) (fun i=>A.eval (.tmp (dstOf ops i))) w
def setB (d:Nat->Bool) (i:Nat):Nat->Bool:=fun j=>d j || j == i
def setX (xs:Nat->Value) (i:Nat) (u:Value):Nat->Value:=fun j=>if j=i then u else xs j
def Local (n:Nat) (Inv:(Nat->Bool)->(Nat->Value)->World->Prop):Prop:=∀ d d' xs xs' w,(∀ i,i<n->d i=d' i)->(∀ i,i<n->xs i=xs' i)->Inv d xs w->Inv d' xs' w
theorem any_of_flowS (hB:okG ops n=true) (hI:Local n Inv) (hsz:∀ i,i<n->dstOf ops i<a0.tmps.size)
    (step:∀ i o,i<n->ops[i]? = some o->∀ (d:Nat->Bool) (A:Act) (w:World),Inv d (fun i=>A.eval (.tmp (dstOf ops i))) w->d i=false->(∀ k,(∀ i,i<n->dstOf ops i≠k)->A.eval (.tmp k)=a0.eval (.tmp k)) ->
      (∀ e ∈ o.after,Region.binds .any e=true->d e.on=true)->(Region.wanted o (yielded ops A.tmps)=true/\YieldsZ P (fun u w'=>Inv (setB d i) (setX (fun i=>A.eval (.tmp (dstOf ops i))) i u) w') Z ((execOp A.eval o).run P w)) \/ (Region.wanted o (yielded ops A.tmps)=false/\Inv (setB d i) (setX (fun i=>A.eval (.tmp (dstOf ops i))) i undef) w))
    (panic:∀ c (A:Act) w,A.defers=a0.defers->Z c w->Q (.panic c) A w)
    (tail:∀ (A:Act) (w:World),A.tmps.size=a0.tmps.size->A.defers=a0.defers->(∀ k,(∀ i,i<n->dstOf ops i≠k)->A.eval (.tmp k)=a0.eval (.tmp k)) ->
      Inv (fun _=>true) (fun i=>A.eval (.tmp (dstOf ops i))) w->wpList P ops Q (ops.toList.drop n) A w) :
    ∀ (f:Nat) (listed:Array Bool) (A:Act) (w:World),GoingS ops n a0 Inv listed A w->(List.range n).countP (fun j=>!listed.getD j true)=f->wpAny P .any ops Q (f+(ops.size - n)) listed A w:=by
  simp only [okG,Bool.and_eq_true,decide_eq_true_eq] at hB
  obtain ⟨⟨⟨⟨hn,hs⟩,hc⟩,hq⟩,ho⟩:=hB
  have each:∀ i,i<n->∃ o d,ops[i]? = some o/\o.dst=some d/\(∀ e ∈ o.after,Region.binds .any e=true->e.on<i)/\∀ j,j<n->j≠i->dstOf ops j≠d:=by
    intro i hi
    have h:=List.all_eq_true.1 ho i (List.mem_range.2 hi)
    cases hoi:ops[i]? with
    | none=>simp [hoi] at h
    | some o =>
      simp only [hoi,Bool.and_eq_true] at h
      obtain ⟨⟨hd,ha⟩,hx⟩:=h
      obtain ⟨d,hd⟩:=Option.isSome_iff_exists.1 hd
      refine ⟨o,d,rfl,hd,fun e he hb=>?_,fun j hj hji hjd=>?_⟩
      · have:=Array.all_eq_true'.1 ha e he
        simpa [hb] using this
      · have:=List.all_eq_true.1 hx j (List.mem_range.2 hj)
        simp only [hji,decide_false,Bool.false_or] at this
        cases hoj:ops[j]? with
        | none=>simp [hoj] at this
        | some o' =>
          simp only [hoj,bne_iff_ne,ne_eq,hd] at this
          have ho':=List.all_eq_true.1 ho j (List.mem_range.2 hj)
          simp only [hoj,Bool.and_eq_true] at ho'
          obtain ⟨d',hd'⟩:=Option.isSome_iff_exists.1 ho'.1.1
          simp only [dstOf,hoj,Option.bind_some,hd',Option.getD_some] at hjd
          exact this (by rw [hd',hjd])
  intro f
  induction f with
  | zero =>
    intro listed A w hg hcount
    have all:∀ i,i<n->listed.getD i false=true:=fun i hi=>by
      have:=List.countP_eq_zero.1 hcount i (List.mem_range.2 hi)
      have:¬ listed.getD i true=false:=by simpa using this
      exact getD_yes this (by rw [hg.head.size];omega)
    have e:listed=((List.range ops.size).map fun i=>decide (i<n)).toArray:=by
      apply Array.ext
      · simp [hg.head.size]
      · intro i h1 h2
        have h1':i<ops.size:=by rw [<- hg.head.size];exact h1
        by_cases hi:i<n
        · have:=all i hi
          rw [Array.getD_eq_getD_getElem?,Array.getElem?_eq_getElem h1] at this
          simpa [hi] using this
        · have:=hg.head.tail i (by omega) h1'
          rw [Array.getD_eq_getD_getElem?,Array.getElem?_eq_getElem h1] at this
          simpa [hi] using this
    have ht:=tail A w hg.size hg.defers hg.other (hI _ _ _ _ _ (fun i hi=>all i hi) (fun _ _=>rfl) hg.inv)
    have:=wpAny_of_seq (md:=.any) (Q':=Q) (ops.toList.drop n) n listed A w (fun j=>by simp [List.getElem?_drop]) (by rw [List.length_drop,Array.length_toList,e];exact hq) ht
    rw [List.length_drop,Array.length_toList] at this
    rwa [Nat.zero_add]
  | succ f ih =>
    intro listed A w hg hcount
    rw [show f+1+(ops.size - n)=(f+(ops.size - n))+1 by omega]
    have some1:∃ i,i<n/\listed.getD i true=false:=by
      apply Classical.byContradiction
      intro hno
      have:(List.range n).countP (fun j=>!listed.getD j true)=0:=by
        rw [List.countP_eq_zero]
        intro j hj
        have:¬ listed.getD j true=false:=fun h=>hno ⟨j,List.mem_range.1 hj,h⟩
        simpa using this
      omega
    have least:∀ i,i<n->listed.getD i true=false->∃ j ∈ Region.ready .any ops listed,j<n:=by
      intro i
      induction i using Nat.strongRecOn with
      | _ i ihi =>
        intro hi hu
        obtain ⟨o,d,hoi,_,ha,_⟩:=each i hi
        by_cases hall:∀ e ∈ o.after,Region.binds .any e=true->listed.getD e.on false=true
        · exact ⟨i,mem_ready.2 ⟨hu,o,hoi,hall⟩,hi⟩
        · simp only [Classical.not_forall] at hall
          obtain ⟨e,he,hb,hl⟩:=hall
          have hlt:=ha e he hb
          exact ihi e.on hlt (by omega) (getD_flip (by simpa using hl) (by rw [hg.head.size];omega))
    obtain ⟨i1,hi1,hu1⟩:=some1
    obtain ⟨j1,hj1,_⟩:=least i1 hi1 hu1
    refine ⟨fun h0=>(by rw [h0] at hj1;cases hj1),fun i hi=>?_⟩
    have hin:i<n:=by
      rcases Nat.lt_or_ge i n with h | h
      · exact h
      · exact absurd hi (tail_waits hs hc hn hg.head _ i1 rfl hi1 hu1 i h)
    obtain ⟨hui,oi,hoi,hall⟩:=mem_ready.1 hi
    obtain ⟨o,d,hoi',hd,ha,hap⟩:=each i hin
    obtain rfl:=Option.some.inj (hoi.symm.trans hoi')
    have hdi:dstOf ops i=d:=by simp [dstOf,hoi,hd]
    have hdz:d<A.tmps.size:=by rw [hg.size,<- hdi];exact hsz i hin
    have hlz:i<listed.size:=by rw [hg.head.size];omega
    have cnt:(List.range n).countP (fun j=>!(listed.setIfInBounds i true).getD j true)=f:=by
      have hc2:=count_less (p:=fun j=>!listed.getD j true) (q:=fun j=>!(listed.setIfInBounds i true).getD j true) (i:=i) (by simp only [hui];rfl) (by
        rw [Array.getD_eq_getD_getElem?,Array.getElem?_setIfInBounds_self_of_lt hlz];rfl) (fun j hj=>by rw [getD_set_ne true (Ne.symm hj)]) (List.range n) List.nodup_range (List.mem_range.2 hin)
      omega
    have otherE:∀ v k,(∀ i,i<n->dstOf ops i≠k)->(A.put (some d) v).eval (.tmp k)=a0.eval (.tmp k):=fun v k hk=>by
      rw [eval_put _ _ _ _ (fun e=>hk i hin (hdi.trans e.symm))];exact hg.other k hk
    have go:∀ v w',Inv (setB (fun i=>listed.getD i false) i) (setX (fun i=>A.eval (.tmp (dstOf ops i))) i v) w' -> wpAny P .any ops Q (f+(ops.size - n)) (listed.setIfInBounds i true) (A.put (some d) v) w':=fun v w' hv=>by
      refine ih _ _ _ ⟨hg.head.set hi hin,by simp [Act.put,hg.size],hg.defers,otherE _,hI _ _ _ _ _ (fun j hj=>?_) (fun j hj=>?_) hv⟩ cnt
      · unfold setB
        by_cases e:j=i
        · subst e
          have hx:(listed.setIfInBounds j true).getD j false=true:=by rw [Array.getD_eq_getD_getElem?,Array.getElem?_setIfInBounds_self_of_lt hlz];rfl
          show (listed.getD j false || j == j)=_
          rw [hx];simp
        · rw [getD_set_ne false (Ne.symm e)];simp [e]
      · unfold setX
        by_cases e:j=i
        · subst e;rw [if_pos rfl,hdi,eval_put_same _ _ _ hdz]
        · rw [if_neg e,eval_put _ _ _ _ (hap j hj e)]
    have hy:=step i oi hin hoi (fun i=>listed.getD i false) A w hg.inv (getD_both hui) hg.other (fun e he hb=>hall e he hb)
    unfold wpOp
    simp only [hoi]
    rcases hy with ⟨hwt,hy⟩ | ⟨hwt,hv⟩
    · rw [if_pos hwt]
      refine .inl (wp_of_yieldsZ hy (fun v w' hv=>?_) (fun c w' hz=>panic c _ w' hg.defers hz))
      rw [hd]
      exact go v w' hv
    · rw [if_neg (by rw [hwt];exact Bool.false_ne_true),hd]
      exact go undef w hv
end
theorem wp_flowS {P:Program} {Q:Exit->Act->World->Prop} {id:Nat} {l:List Oper} (ds:List Nat) (Inv:(Nat->Bool)->(Nat->Value)->World->Prop) (Z:List PanicEntry->World->Prop) {a0:Act} {w:World} (hI:Local ds.length Inv)
    (hm:P.follows .mixedOrders=true) (hB:okG l.toArray ds.length=true)
    (hd:((List.range ds.length).all fun i=>dstOf l.toArray i == ds.getD i 0)=true) (hnd:((List.range ds.length).all fun i=>(List.range ds.length).all fun j=>decide (j=i) || ds.getD j 0 != ds.getD i 0)=true) (hsz:(ds.all fun d=>decide (d<a0.tmps.size))=true)
    (begin':∀ xs,Inv (fun _=>false) xs w.drew)
    (step:∀ i o,i<ds.length->l[i]? = some o->∀ (d:Nat->Bool) (A:Act) (W:World),Inv d (fun i=>A.tmps[ds.getD i 0]?.getD undef) W->d i=false->(∀ k,(ds.all fun d=>d != k)=true->A.tmps[k]?.getD undef=a0.tmps[k]?.getD undef) ->
      (∀ j,(o.after.any fun e=>e.on == j && Region.binds .any e)=true->d j=true) ->
      (Region.wanted o (yielded l.toArray A.tmps)=true/\YieldsZ P (fun u W'=>Inv (setB d i) (setX (fun i=>A.tmps[ds.getD i 0]?.getD undef) i u) W') Z ((execOp A.eval o).run P W)) \/ (Region.wanted o (yielded l.toArray A.tmps)=false/\Inv (setB d i) (setX (fun i=>A.tmps[ds.getD i 0]?.getD undef) i undef) W))
    (panic:∀ c (A:Act) W,A.defers=a0.defers->Z c W->Q (.panic c) A W)
    (tail:∀ (xs:Nat->Value) (W:World),Inv (fun _=>true) xs W->wpList P l.toArray Q (l.drop ds.length) (putL ds xs 0 a0) W) :
    (Code.region id l.toArray true).wp P Q a0 w:=by
  have hdst:∀ i,i<ds.length->dstOf l.toArray i=ds.getD i 0:=fun i hi=>by simpa using List.all_eq_true.1 hd i (List.mem_range.2 hi)
  have hmem:∀ i,i<ds.length->ds.getD i 0 ∈ ds:=fun i hi=>by rw [List.getD_eq_getElem?_getD,List.getElem?_eq_getElem hi];exact List.getElem_mem hi
  have hap:∀ i,i<ds.length->∀ j,j<ds.length->j≠i->dstOf l.toArray j≠dstOf l.toArray i:=fun i hi j hj hji e=>by
    rw [hdst i hi,hdst j hj] at e
    have h:=List.all_eq_true.1 (List.all_eq_true.1 hnd i (List.mem_range.2 hi)) j (List.mem_range.2 hj)
    rw [e] at h
    simp [hji] at h
  have hsz':∀ i,i<ds.length->dstOf l.toArray i<a0.tmps.size:=fun i hi=>by
    rw [hdst i hi];simpa using List.all_eq_true.1 hsz _ (hmem i hi)
  have hB2:=hB
  simp only [okG,Bool.and_eq_true,decide_eq_true_eq] at hB2
  have hn:=hB2.1.1.1.1
  have slots:∀ {A:Act},(∀ k,(∀ i,i<ds.length->dstOf l.toArray i≠k)->A.eval (.tmp k)=a0.eval (.tmp k))->∀ k,(ds.all fun d=>d != k)=true->A.tmps[k]?.getD undef=a0.tmps[k]?.getD undef:=fun hk k hkk=>by
    rw [<- eval_form,<- eval_form]
    refine hk k fun i hi e=>?_
    rw [hdst i hi] at e
    have:=List.all_eq_true.1 hkk _ (hmem i hi)
    rw [e] at this
    simp at this
  refine wp_region_any hm ?_
  have inv0:HeadInv .any l.toArray ds.length (Array.replicate l.toArray.size false) :=
    ⟨by simp,fun j oj _ hl=>(by rw [getD_replicate_false] at hl;cases hl),fun t _ ht=>getD_in (by simpa using ht) (getD_replicate_false _ _)⟩
  have c0:(List.range ds.length).countP (fun j=>!(Array.replicate l.toArray.size false).getD j true)=ds.length:=by
    have:∀ j ∈ List.range ds.length,(!(Array.replicate l.toArray.size false).getD j true)=true:=fun j hj=>by
      rw [getD_in (by have:=List.mem_range.1 hj;simp at hn ⊢;omega) (getD_replicate_false _ _)];rfl
    rw [List.countP_eq_length.2 this,List.length_range]
  have sames:∀ (A:Act) i,i<ds.length->A.eval (.tmp (dstOf l.toArray i))=A.tmps[ds.getD i 0]?.getD undef:=fun A i hi=>by rw [eval_form,hdst i hi]
  have turn:∀ (A:Act) d W,Inv d (fun i=>A.eval (.tmp (dstOf l.toArray i))) W ↔ Inv d (fun i=>A.tmps[ds.getD i 0]?.getD undef) W:=fun A d W=>⟨hI _ _ _ _ _ (fun _ _=>rfl) (fun i hi=>sames A i hi),hI _ _ _ _ _ (fun _ _=>rfl) (fun i hi=>(sames A i hi).symm)⟩
  have turnX:∀ (A:Act) d i u W,Inv d (setX (fun i=>A.tmps[ds.getD i 0]?.getD undef) i u) W->Inv d (setX (fun i=>A.eval (.tmp (dstOf l.toArray i))) i u) W:=fun A d i u W=>hI _ _ _ _ _ (fun _ _=>rfl) (fun j hj=>by unfold setX;by_cases e:j=i;(rw [if_pos e,if_pos e]);(rw [if_neg e,if_neg e];exact (sames A j hj).symm))
  have H:=any_of_flowS (P:=P) (Q:=Q) (ops:=l.toArray) (Inv:=Inv) (a0:=a0) (Z:=Z) hB hI hsz'
    (fun i o hi ho d A W hv hdi hk he=>(step i o hi (by simpa using ho) d A W ((turn A d W).1 hv) hdi (slots hk) (fun j hj=>edge (P:=fun j=>d j=true) he j hj)).imp
      (fun ⟨h1,h2⟩=>⟨h1,h2.mono fun u W' h=>turnX A _ i u W' h⟩) (fun ⟨h1,h2⟩=>⟨h1,turnX A _ i undef W h2⟩))
    panic
    (fun A W hs hd' hk hv=>by
      have e:A=putL ds (fun i=>A.eval (.tmp (dstOf l.toArray i))) 0 a0:=by
        rw [putL_eq l.toArray _ ds 0 a0 (fun i hi=>by rw [Nat.zero_add];exact hdst i hi),<- List.range_eq_range']
        refine act_ext (by rw [putAll_size,hs]) (by rw [putAll_defers,hd']) fun k=>?_
        by_cases h:∃ i,i<ds.length/\dstOf l.toArray i=k
        · obtain ⟨i,hi,rfl⟩:=h
          rw [putAll_same _ _ _ List.nodup_range (fun i hi j hj=>hap i (List.mem_range.1 hi) j (List.mem_range.1 hj)) (fun i hi=>hsz' i (List.mem_range.1 hi)) i (List.mem_range.2 hi)]
        · have h':∀ i,i<ds.length->dstOf l.toArray i≠k:=fun i hi e=>h ⟨i,hi,e⟩
          rw [putAll_other _ _ _ _ (fun i hi=>h' i (List.mem_range.1 hi)),hk k h']
      have ht:=tail (fun i=>A.eval (.tmp (dstOf l.toArray i))) W hv
      rw [<- e] at ht
      simpa using ht)
    ds.length (Array.replicate l.toArray.size false) a0 w.drew ⟨inv0,rfl,rfl,fun _ _=>rfl,hI _ _ _ _ _ (fun i _=>(getD_replicate_false _ _).symm) (fun _ _=>rfl) (begin' fun i=>a0.eval (.tmp (dstOf l.toArray i)))⟩ c0
  rw [show ds.length+(l.toArray.size - ds.length)=l.toArray.size by omega] at H
  exact H
theorem wp_flowB {P:Program} {Q:Exit->Act->World->Prop} {id:Nat} {l:List Oper} {R K:World->World->Prop} (hR:Rel R) (hK:Rel K) (hRK:∀ x y,R x y->K x y) (ds:List Nat) (vl:List (Value->World->Prop)) (a:Nat) (Z:List PanicEntry->World->Prop) {a0:Act} {w:World} (ha:a<ds.length)
    (hm:P.follows .mixedOrders=true) (hB:okG l.toArray ds.length=true)
    (hd:((List.range ds.length).all fun i=>dstOf l.toArray i == ds.getD i 0)=true) (hnd:((List.range ds.length).all fun i=>(List.range ds.length).all fun j=>decide (j=i) || ds.getD j 0 != ds.getD i 0)=true) (hsz:(ds.all fun d=>decide (d<a0.tmps.size))=true)
    (mono:∀ p ∈ vl,MonoR R p) (monoK:∀ i,i≠a->MonoR K (pick vl i))
    (step:∀ i o,i<ds.length->i≠a->l[i]? = some o->∀ (A:Act) (W:World),K w W->(∀ k,(ds.all fun d=>d != k)=true->A.tmps[k]?.getD undef=a0.tmps[k]?.getD undef) ->
      (∀ j,j<ds.length->(o.after.any fun e=>e.on == j && Region.binds .any e)=true->pick vl j (A.tmps[ds.getD j 0]?.getD undef) W) ->
      (Region.wanted o (yielded l.toArray A.tmps)=true/\YieldsZ P (fun u W'=>pick vl i u W' /\ R W W') Z ((execOp A.eval o).run P W)) \/ (Region.wanted o (yielded l.toArray A.tmps)=false/\pick vl i undef W))
    (stepA:∀ o,l[a]? = some o->∀ (A:Act) (W:World),R w W->(∀ k,(ds.all fun d=>d != k)=true->A.tmps[k]?.getD undef=a0.tmps[k]?.getD undef) ->
      (∀ j,j<ds.length->(o.after.any fun e=>e.on == j && Region.binds .any e)=true->pick vl j (A.tmps[ds.getD j 0]?.getD undef) W) ->
      Region.wanted o (yielded l.toArray A.tmps)=true/\YieldsZ P (fun u W'=>pick vl a u W' /\ K W W') Z ((execOp A.eval o).run P W))
    (panic:∀ c (A:Act) W,A.defers=a0.defers->Z c W->Q (.panic c) A W)
    (tail:∀ (xs:Nat->Value) (W:World),K w W->(∀ i,i<ds.length->pick vl i (xs i) W)->wpList P l.toArray Q (l.drop ds.length) (putL ds xs 0 a0) W) :
    (Code.region id l.toArray true).wp P Q a0 w:=by
  refine wp_flowS (w:=w) ds (fun d xs W=>(∀ i,i<ds.length->d i=true->pick vl i (xs i) W)/\(d a=false->R w W)/\K w W) Z ?_ hm hB hd hnd hsz ?_ ?_ panic ?_
  · intro d d' xs xs' W h1 h2 ⟨h3,h4,h5⟩
    exact ⟨fun i hi hd=>by rw [<- h2 i hi];exact h3 i hi (by rw [h1 i hi];exact hd),fun h=>h4 (by rw [h1 a ha];exact h),h5⟩
  · intro xs
    exact ⟨fun _ _ h=>(by cases h),fun _=>hR.drew w,hK.drew w⟩
  · intro i o hi ho d A W hv hdi hk he
    obtain ⟨h1,h2,h3⟩:=hv
    have hdeps:∀ j,j<ds.length->(o.after.any fun e=>e.on == j && Region.binds .any e)=true->pick vl j (A.tmps[ds.getD j 0]?.getD undef) W:=fun j hj hb=>h1 j hj (he j hb)
    by_cases hia:i=a
    · subst hia
      obtain ⟨hw,hy⟩:=stepA o ho A W (h2 hdi) hk hdeps
      refine .inl ⟨hw,hy.mono fun u W' ⟨hu,hkk⟩=>⟨fun j hj hdj=>?_,fun h=>?_,hK.trans h3 hkk⟩⟩
      · unfold setX
        by_cases e:j=i
        · subst e;rw [if_pos rfl];exact hu
        · rw [if_neg e]
          have:d j=true:=by simpa [setB,e] using hdj
          exact monoK j e _ _ _ (h1 j hj this) hkk
      · simp [setB] at h
    · have fin:∀ u W',pick vl i u W' -> R W W' -> (∀ j,j<ds.length->setB d i j=true->pick vl j (setX (fun i=>A.tmps[ds.getD i 0]?.getD undef) i u j) W')/\(setB d i a=false->R w W')/\K w W':=fun u W' hu hr=>by
        refine ⟨fun j hj hdj=>?_,fun h=>?_,hK.trans h3 (hRK _ _ hr)⟩
        · unfold setX
          by_cases e:j=i
          · subst e;rw [if_pos rfl];exact hu
          · rw [if_neg e]
            have:d j=true:=by simpa [setB,e] using hdj
            exact pick_monoR mono j _ _ _ (h1 j hj this) hr
        · have:d a=false:=by simp [setB] at h;exact h.1
          exact hR.trans (h2 this) hr
      rcases step i o hi hia ho A W h3 hk hdeps with ⟨hw,hy⟩ | ⟨hw,hu⟩
      · exact .inl ⟨hw,hy.mono fun u W' h=>fin u W' h.1 h.2⟩
      · exact .inr ⟨hw,fin undef W hu (hR.refl W)⟩
  · intro xs W ⟨h1,_,h3⟩
    exact tail xs W h3 fun i hi=>h1 i hi rfl
end Go.Proofs.YtagebkachdmnbaaGreatDoor.Flow
end
section
namespace Go.Proofs.YtagebkachdmnbaaGreatDoor.Flow
open Go.RowKit Go.Proofs.YtagebkachdmnbaaGreatDoor.Mem
def YieldsW (P:Program) (Y:Value->World->Prop):Result Next->Prop
  | .ok (.value v) w=>Y v w
  | .ok .skip w=>Y undef w
  | .ok (.enter f args) w=>Calls P f args w fun e w'=>∃ v,e = .returned v/\Y v w'
  | _=>False
theorem wp_of_yieldsW {P:Program} {o:Oper} {a:Act} {w:World} {K:Act->World->Prop} {Q:Exit->Act->World->Prop} {Y:Value->World->Prop}
    (h:YieldsW P Y ((execOp a.eval o).run P w)) (hk:∀ v w',Y v w' -> K (a.put o.dst v) w'):o.wp P a w K Q:=by
  unfold Oper.wp
  generalize (execOp a.eval o).run P w=r at h ⊢
  cases r with
  | ok n w' =>
    cases n <;> simp only [YieldsW] at h <;> simp only [Oper.upon]
    case value v=>exact hk v w' h
    case skip=>exact hk undef w' h
    case enter f args=>exact h.mono fun e w'' ⟨v,he,hy⟩=>by subst he;exact hk v w'' hy
  | halt x w'=>simp only [YieldsW] at h
def slotAt (ds:List (Option Nat)) (i:Nat):Option Nat:=(ds.getD i none)
def waits (ops:Array Oper) (k i:Nat):Bool:=match ops[k]? with
  | some o=>o.after.any fun e=>e.on == i && Region.binds .any e
  | none=>false
def okM (ops:Array Oper) (ds:List (Option Nat)) (ws lims:List Nat):Bool :=
  decide (ds.length=ops.size) &&
  ((List.range ops.size).all fun i=>match ops[i]? with
    | some o=>o.dst == slotAt ds i && (o.after.all fun e=>!Region.binds .any e || decide (e.on<i))
    | none=>false) &&
  ((List.range ops.size).all fun i=>(List.range ops.size).all fun j=>decide (j=i) || (slotAt ds i).isNone || slotAt ds j != slotAt ds i) &&
  ((List.range ws.length).all fun m=>(List.range ws.length).all fun m'=>decide (m' = m) || ws.getD m' 0 != ws.getD m 0) &&
  ((List.range ws.length).all fun m=>decide (m=0) || waits ops (ws.getD m 0) (ws.getD (m - 1) 0)) &&
  ((List.range ops.size).all fun i=>ws.contains i || decide (ws.length<=lims.getD i 0) || waits ops (ws.getD (lims.getD i 0) 0) i)
def putM:List (Option Nat)->(Nat->Value)->Nat->Act->Act
  | [],_,_,a=>a
  | d :: l,xs,i,a=>putM l xs (i+1) (a.put d (xs i))
section
variable {P : Program} {ops : Array Oper} {ds : List (Option Nat)} {ws lims : List Nat} {vl : List (Value → World → Prop)} {M : Nat → World → Prop} {a0 : Act} {B : Nat} {Q : Exit → Act → World → Prop}
structure GoingM (ops:Array Oper) (ds:List (Option Nat)) (ws:List Nat) (vl:List (Value->World->Prop)) (M:Nat->World->Prop) (a0:Act) (B:Nat) (done:Nat->Bool) (j:Nat) (A:Act) (w:World):Prop where
  size:A.tmps.size=a0.tmps.size
  defers:A.defers=a0.defers
  low:B<=w.heap.size
  mem:M j w
  other:∀ k,(∀ i,i<ops.size->slotAt ds i≠some k)->A.eval (.tmp k)=a0.eval (.tmp k)
  has:∀ i d,i<ops.size->done i=true->slotAt ds i=some d->pick vl i (A.eval (.tmp d)) w
  stage:∀ m,m<ws.length->(done (ws.getD m 0)=true ↔ m<j)
  most:j<=ws.length
theorem put_size (A:Act) (d:Option Nat) (v:Value):(A.put d v).tmps.size=A.tmps.size:=by cases d <;> simp [Act.put]
theorem put_defers (A:Act) (d:Option Nat) (v:Value):(A.put d v).defers=A.defers:=by cases d <;> rfl
theorem eval_putO (A:Act) (d:Option Nat) (k:Nat) (v:Value) (h:d≠some k):(A.put d v).eval (.tmp k)=A.eval (.tmp k):=by
  cases d with
  | none=>rfl
  | some d=>exact eval_put A d k v (fun e=>h (by rw [e]))
theorem GoingM.all {done:Nat->Bool} {j:Nat} {A:Act} {w:World} (h:GoingM ops ds ws vl M a0 B done j A w) (hdl:ds.length=ops.size) (hall:∀ i,i<ops.size->done i=true)
    (hap:∀ a b,a<ops.size->b<ops.size->b≠a->slotAt ds a≠none->slotAt ds b≠slotAt ds a) (hsz:∀ a d,a<ops.size->slotAt ds a=some d->d<a0.tmps.size) (hws:∀ m,m<ws.length->ws.getD m 0<ops.size) :
    j=ws.length/\A=putM ds (fun i=>match slotAt ds i with | some d=>A.eval (.tmp d) | none=>undef) 0 a0:=by
  refine ⟨?_,?_⟩
  · rcases Nat.lt_or_ge j ws.length with hj | hj
    · have:=(h.stage j hj).1 (hall _ (hws j hj));omega
    · have:=h.most;omega
  · have key:∀ (xs:Nat->Value) (l:List (Option Nat)) (k:Nat) (a:Act),a.tmps.size=a0.tmps.size->k+l.length=ops.size->(∀ i,k<=i->i<ops.size->l.getD (i - k) none=slotAt ds i) ->
        (putM l xs k a).tmps.size=a.tmps.size/\(putM l xs k a).defers=a.defers/\(∀ d,(∀ i,k<=i->i<ops.size->slotAt ds i≠some d)->(putM l xs k a).eval (.tmp d)=a.eval (.tmp d)) /\
          (∀ i d,k<=i->i<ops.size->slotAt ds i=some d->(putM l xs k a).eval (.tmp d)=xs i):=by
      intro xs l
      induction l with
      | nil=>intro k a _ hk _;exact ⟨rfl,rfl,fun _ _=>rfl,fun i d h1 h2=>absurd h2 (by simp at hk;omega)⟩
      | cons d0 l ih =>
        intro k a hs hk hl
        have e0:slotAt ds k=d0:=by have:=hl k (Nat.le_refl _) (by simp at hk;omega);simpa using this.symm
        obtain ⟨i1,i2,i3,i4⟩:=ih (k+1) (a.put d0 (xs k)) (by rw [put_size];exact hs) (by simp at hk;omega) (fun i h1 h2=>by
          have:=hl i (by omega) h2
          rwa [show i - k=(i - (k+1))+1 by omega,List.getD_cons_succ] at this)
        have hkl:k<ops.size:=by simp at hk;omega
        refine ⟨by rw [putM,i1,put_size],by rw [putM,i2,put_defers],fun d hd=>?_,fun i d h1 h2 h3=>?_⟩
        · rw [putM,i3 d (fun i h1 h2=>hd i (by omega) h2),eval_putO _ _ _ _ (by rw [<- e0];exact hd k (Nat.le_refl _) hkl)]
        · by_cases e:i=k
          · subst e
            rw [putM,i3 d (fun i' h1' h2' e'=>by
              have:=hap i i' hkl h2' (by omega) (by rw [h3];exact fun h=>by cases h)
              rw [e',h3] at this
              exact this rfl),<- e0,h3,eval_put_same _ _ _ (by rw [hs];exact hsz i d hkl h3)]
          · rw [putM];exact i4 i d (by omega) h2 h3
    obtain ⟨k1,k2,k3,k4⟩:=key (fun i=>match slotAt ds i with | some d=>A.eval (.tmp d) | none=>undef) ds 0 a0 rfl (by rw [hdl];omega) (fun i _ _=>by rw [Nat.sub_zero];rfl)
    refine act_ext (by rw [k1,h.size]) (by rw [k2,h.defers]) fun k=>?_
    by_cases hk:∃ i,i<ops.size/\slotAt ds i=some k
    · obtain ⟨i,hi,hs⟩:=hk
      rw [k4 i k (Nat.zero_le _) hi hs]
      simp only [hs]
    · rw [k3 k (fun i _ hi hs=>hk ⟨i,hi,hs⟩)]
      exact h.other k (fun i hi hs=>hk ⟨i,hi,hs⟩)
structure OkM (ops:Array Oper) (ds:List (Option Nat)) (ws lims:List Nat):Prop where
  len:ds.length=ops.size
  slot:∀ i o,ops[i]? = some o->o.dst=slotAt ds i
  back:∀ i o,ops[i]? = some o->∀ e ∈ o.after,Region.binds .any e=true->e.on<i
  apart:∀ a b,a<ops.size->b<ops.size->b≠a->slotAt ds a≠none->slotAt ds b≠slotAt ds a
  once:∀ m m',m<ws.length->m' < ws.length->m' ≠ m->ws.getD m' 0≠ws.getD m 0
  chain:∀ m,m<ws.length->0<m->waits ops (ws.getD m 0) (ws.getD (m - 1) 0)=true
  lim:∀ i,i<ops.size->ws.contains i=false->ws.length<=lims.getD i 0 \/ waits ops (ws.getD (lims.getD i 0) 0) i=true
theorem okM_out (h:okM ops ds ws lims=true):OkM ops ds ws lims:=by
  simp only [okM,Bool.and_eq_true,decide_eq_true_eq] at h
  obtain ⟨⟨⟨⟨⟨h1,h2⟩,h3⟩,h4⟩,h5⟩,h6⟩:=h
  have hs:∀ i o,ops[i]? = some o->o.dst=slotAt ds i/\∀ e ∈ o.after,Region.binds .any e=true->e.on<i:=fun i o ho=>by
    have hi:i<ops.size:=(Array.getElem?_eq_some_iff.1 ho).1
    have:=List.all_eq_true.1 h2 i (List.mem_range.2 hi)
    rw [ho] at this
    simp only [Bool.and_eq_true,beq_iff_eq] at this
    refine ⟨this.1,fun e he hb=>?_⟩
    have:=Array.all_eq_true'.1 this.2 e he
    simpa [hb] using this
  refine ⟨h1,fun i o ho=>(hs i o ho).1,fun i o ho=>(hs i o ho).2,fun a b ha hb hne hn he=>?_,fun m m' hm hm' hne he=>?_,fun m hm h0=>?_,fun i hi hc=>?_⟩
  · have:=List.all_eq_true.1 (List.all_eq_true.1 h3 a (List.mem_range.2 ha)) b (List.mem_range.2 hb)
    rw [he] at this
    simp only [hne,decide_false,Bool.false_or,bne_self_eq_false,Bool.or_false,Option.isNone_iff_eq_none] at this
    exact hn this
  · have:=List.all_eq_true.1 (List.all_eq_true.1 h4 m (List.mem_range.2 hm)) m' (List.mem_range.2 hm')
    rw [he] at this
    simp [hne] at this
  · have:=List.all_eq_true.1 h5 m (List.mem_range.2 hm)
    simpa [show m≠0 by omega] using this
  · have:=List.all_eq_true.1 h6 i (List.mem_range.2 hi)
    rw [hc] at this
    simpa using this
end
section
variable {P : Program} {ops : Array Oper} {ds : List (Option Nat)} {ws lims : List Nat} {vl : List (Value → World → Prop)} {M : Nat → World → Prop} {a0 : Act} {B : Nat} {Q : Exit → Act → World → Prop}
theorem getD_flip2 {listed:Array Bool} {i:Nat} (h:listed.getD i true=false) (h2:listed.getD i false=true):listed.getD i false=false:=by
  rw [Array.getD_eq_getD_getElem?] at h h2 ⊢
  cases hi:listed[i]? with
  | none=>rfl
  | some b=>rw [hi] at h h2;simp at h h2;rw [h] at h2;cases h2
theorem getD_flop {listed:Array Bool} {i:Nat} (h:listed.getD i true=false) (hi:i<listed.size):listed.getD i false=false:=by
  simp [hi] at h ⊢;exact h
end
theorem slots_of {ds:List (Option Nat)} {n:Nat} {a0 A:Act} (hl:ds.length=n) (ho:∀ k,(∀ i,i<n->slotAt ds i≠some k)->A.eval (.tmp k)=a0.eval (.tmp k)) :
    ∀ k,(ds.all fun d=>d != some k)=true->A.tmps[k]?.getD undef=a0.tmps[k]?.getD undef:=fun k hk=>by
  rw [<- eval_form,<- eval_form]
  refine ho k fun i hi e=>?_
  have hm:ds.getD i none ∈ ds:=by rw [List.getD_eq_getElem?_getD,List.getElem?_eq_getElem (by omega)];exact List.getElem_mem _
  have:=List.all_eq_true.1 hk _ hm
  unfold slotAt at e
  rw [e] at this
  simp at this
theorem slot_in {ds:List (Option Nat)} {n:Nat} {a0:Act} (hl:ds.length=n) (hsz:(ds.all fun d=>match d with | some d=>decide (d<a0.tmps.size) | none=>true)=true):∀ a d,a<n->slotAt ds a=some d->d<a0.tmps.size:=fun a d ha hs=>by
  have hm:ds.getD a none ∈ ds:=by rw [List.getD_eq_getElem?_getD,List.getElem?_eq_getElem (by omega)];exact List.getElem_mem _
  have:=List.all_eq_true.1 hsz _ hm
  unfold slotAt at hs
  rw [hs] at this
  simpa using this
end Go.Proofs.YtagebkachdmnbaaGreatDoor.Flow
end
section
namespace Go.Proofs.YtagebkachdmnbaaGreatDoor.Flow
open Go.RowKit Go.Proofs.YtagebkachdmnbaaGreatDoor.Mem
def valsD (ds:List (Option Nat)) (A:Act) (i:Nat):Value:=match slotAt ds i with
  | some d=>A.eval (.tmp d)
  | none=>undef
def setB1 (d:Nat->Bool) (i:Nat):Nat->Bool:=fun k=>d k || k == i
def setX1 (xs:Nat->Value) (i:Nat) (u:Value):Nat->Value:=fun k=>if k=i then u else xs k
section
variable {P : Program} {ops : Array Oper} {ds : List (Option Nat)} {Inv : (Nat → Bool) → (Nat → Value) → World → Prop} {a0 : Act} {Q : Exit → Act → World → Prop}
theorem valsD_put (hB:OkM ops ds [] []) {A:Act} {i:Nat} {v:Value} (hi:i<ops.size) (hsz:∀ d,slotAt ds i=some d->d<A.tmps.size) :
    valsD ds (A.put (slotAt ds i) v)=setX1 (valsD ds A) i (if (ds.getD i none).isSome then v else undef):=by
  funext k
  unfold setX1
  by_cases e:k=i
  · subst e
    rw [if_pos rfl]
    unfold valsD
    cases h:slotAt ds k with
    | none =>
      have h':ds.getD k none=none:=h
      rw [h'];rfl
    | some d =>
      have h':ds.getD k none=some d:=h
      simp only [h',Option.isSome_some,if_true]
      exact eval_put_same _ _ _ (hsz d h)
  · rw [if_neg e]
    unfold valsD
    cases h:slotAt ds k with
    | none=>rfl
    | some d =>
      have hk:k<ops.size:=by
        rcases Nat.lt_or_ge k ds.length with h2 | h2
        · rw [<- hB.len];exact h2
        · have:slotAt ds k=none:=by unfold slotAt;rw [List.getD_eq_getElem?_getD,List.getElem?_eq_none h2];rfl
          rw [this] at h;cases h
      simp only
      exact eval_putO _ _ _ _ (fun e2=>hB.apart k i hk hi (fun e3=>e e3.symm) (by rw [h];exact fun h=>by cases h) (by rw [e2,h]))
theorem any_of_flowD (hB:OkM ops ds [] []) (hsz:∀ a d,a<ops.size->slotAt ds a=some d->d<a0.tmps.size)
    (step:∀ i o,i<ops.size->ops[i]? = some o->∀ (d:Nat->Bool) (A:Act) (W:World),d i=false->(∀ k,(o.after.any fun e=>e.on == k && Region.binds .any e)=true->d k=true)->Inv d (valsD ds A) W ->
      (∀ k,(∀ i,i<ops.size->slotAt ds i≠some k)->A.eval (.tmp k)=a0.eval (.tmp k)) ->
      (Region.wanted o (yielded ops A.tmps)=true/\YieldsW P (fun u W'=>Inv (setB1 d i) (setX1 (valsD ds A) i (if (ds.getD i none).isSome then u else undef)) W') ((execOp A.eval o).run P W)))
    (tail:∀ (d:Nat->Bool) (xs:Nat->Value) (W:World),(∀ i,i<ops.size->d i=true)->Inv d xs W->Q .normal (putM ds xs 0 a0) W) :
    ∀ (f:Nat) (listed:Array Bool) (A:Act) (w:World),listed.size=ops.size->GoingM ops ds [] [] (fun _ _=>True) a0 0 (fun i=>listed.getD i false) 0 A w->Inv (fun i=>listed.getD i false) (valsD ds A) w ->
      (List.range ops.size).countP (fun j=>!listed.getD j true)=f->wpAny P .any ops Q f listed A w:=by
  have fin:∀ (listed:Array Bool) (A:Act) (w:World),GoingM ops ds [] [] (fun _ _=>True) a0 0 (fun i=>listed.getD i false) 0 A w->Inv (fun i=>listed.getD i false) (valsD ds A) w->(∀ i,i<ops.size->listed.getD i false=true)->Q .normal A w:=by
    intro listed A w hg hI hall
    obtain ⟨_,e⟩:=hg.all hB.len hall hB.apart hsz (fun m h=>by cases h)
    have ht:=tail _ _ w hall hI
    have e2:putM ds (valsD ds A) 0 a0=A:=e.symm
    rwa [e2] at ht
  intro f
  induction f with
  | zero =>
    intro listed A w hls hg hI hcount
    have all:∀ i,i<ops.size->listed.getD i false=true:=fun i hi=>by
      have:=List.countP_eq_zero.1 hcount i (List.mem_range.2 hi)
      have:¬ listed.getD i true=false:=by simpa using this
      exact getD_yes this (by omega)
    refine ⟨?_,fin listed A w hg hI all⟩
    rw [List.eq_nil_iff_forall_not_mem]
    intro i hi
    obtain ⟨hu,o,ho,_⟩:=mem_ready.1 hi
    have hio:i<ops.size:=(Array.getElem?_eq_some_iff.1 ho).1
    have h1:=all i hio
    rw [getD_flip2 hu h1] at h1
    cases h1
  | succ f ih =>
    intro listed A w hls hg hI hcount
    have least:∀ i,i<ops.size->listed.getD i true=false->∃ k,k ∈ Region.ready .any ops listed:=by
      intro i
      induction i using Nat.strongRecOn with
      | _ i ihi =>
        intro hi hu
        obtain ⟨o,hoi⟩:∃ o,ops[i]? = some o:=⟨_,Array.getElem?_eq_getElem hi⟩
        by_cases hall:∀ e ∈ o.after,Region.binds .any e=true->listed.getD e.on false=true
        · exact ⟨i,mem_ready.2 ⟨hu,o,hoi,hall⟩⟩
        · simp only [Classical.not_forall] at hall
          obtain ⟨e,he,hb,hl⟩:=hall
          have hlt:=hB.back i o hoi e he hb
          exact ihi e.on hlt (by omega) (getD_flip (by simpa using hl) (by omega))
    refine ⟨fun h0=>?_,fun i hi=>?_⟩
    · exfalso
      have:(List.range ops.size).countP (fun j=>!listed.getD j true)=0:=by
        rw [List.countP_eq_zero]
        intro k hk
        intro hk2
        obtain ⟨k',hk'⟩:=least k (List.mem_range.1 hk) (by simpa using hk2)
        rw [h0] at hk'
        cases hk'
      omega
    obtain ⟨hui,o,hoi,hall⟩:=mem_ready.1 hi
    have hin:i<ops.size:=(Array.getElem?_eq_some_iff.1 hoi).1
    have huf:listed.getD i false=false:=getD_flop hui (by omega)
    have hdone:∀ k,(listed.setIfInBounds i true).getD k false=(listed.getD k false || k == i):=fun k=>by
      by_cases e:k=i
      · subst e
        rw [Array.getD_eq_getD_getElem?,Array.getElem?_setIfInBounds_self_of_lt (by omega)];simp
      · rw [getD_set_ne false (Ne.symm e)];simp [e]
    have hcnt:(List.range ops.size).countP (fun k=>!(listed.setIfInBounds i true).getD k true)=f:=by
      have hc2:=count_less (p:=fun j=>!listed.getD j true) (q:=fun j=>!(listed.setIfInBounds i true).getD j true) (i:=i) (by simp only [hui];rfl) (by
        rw [Array.getD_eq_getD_getElem?,Array.getElem?_setIfInBounds_self_of_lt (by omega)];rfl) (fun j hj=>by rw [getD_set_ne true (Ne.symm hj)]) (List.range ops.size) List.nodup_range (List.mem_range.2 hin)
      omega
    unfold wpOp
    simp only [hoi]
    obtain ⟨hwt,hy⟩:=step i o hin hoi (fun k=>listed.getD k false) A w huf (fun k hk=>by
      obtain ⟨e,he,h2⟩:=Array.any_eq_true'.1 hk
      simp only [Bool.and_eq_true,beq_iff_eq] at h2
      obtain ⟨rfl,hb⟩:=h2
      exact hall e he hb) hI hg.other
    rw [if_pos hwt]
    refine .inl (wp_of_yieldsW hy fun v w' hI'=>?_)
    rw [hB.slot i o hoi]
    have hd2:(fun k=>(listed.setIfInBounds i true).getD k false)=setB1 (fun k=>listed.getD k false) i:=funext hdone
    refine ih _ _ _ (by simpa using hls) ?_ ?_ hcnt
    · refine ⟨by rw [put_size];exact hg.size,by rw [put_defers];exact hg.defers,Nat.zero_le _,trivial,fun k hk=>?_,fun a d _ _ _=>by unfold pick;simp,fun m h=>(by cases h),Nat.zero_le _⟩
      rw [eval_putO _ _ _ _ (hk i hin)];exact hg.other k hk
    · rw [hd2,valsD_put hB hin (fun d hd=>by rw [hg.size];exact hsz i d hin hd)]
      exact hI'
end
theorem wp_flowD {P:Program} {Q:Exit->Act->World->Prop} {id:Nat} {l:List Oper} (ds:List (Option Nat)) (Inv:(Nat->Bool)->(Nat->Value)->World->Prop) {a0:Act} {w:World}
    (hm:P.follows .mixedOrders=true) (hB:okM l.toArray ds [] (ds.map fun _=>0)=true) (hsz:(ds.all fun d=>match d with | some d=>decide (d<a0.tmps.size) | none=>true)=true)
    (h0:∀ xs,Inv (fun _=>false) xs w.drew)
    (step:∀ i o,i<l.length->l[i]? = some o->∀ (d:Nat->Bool) (A:Act) (W:World),d i=false->(∀ k,(o.after.any fun e=>e.on == k && Region.binds .any e)=true->d k=true)->Inv d (valsD ds A) W ->
      (∀ k,(ds.all fun d=>d != some k)=true->A.tmps[k]?.getD undef=a0.tmps[k]?.getD undef) ->
      (Region.wanted o (yielded l.toArray A.tmps)=true/\YieldsW P (fun u W'=>Inv (setB1 d i) (setX1 (valsD ds A) i (if (ds.getD i none).isSome then u else undef)) W') ((execOp A.eval o).run P W)))
    (tail:∀ (d:Nat->Bool) (xs:Nat->Value) (W:World),(∀ i,i<l.length->d i=true)->Inv d xs W->Q .normal (putM ds xs 0 a0) W) :
    (Code.region id l.toArray true).wp P Q a0 w:=by
  have HB0:=okM_out hB
  have HB:OkM l.toArray ds [] []:=⟨HB0.len,HB0.slot,HB0.back,HB0.apart,HB0.once,HB0.chain,fun i _ _ => .inl (Nat.zero_le _)⟩
  have hsl:=slot_in (n:=l.toArray.size) HB.len hsz
  refine wp_region_any hm ?_
  refine any_of_flowD (Inv:=Inv) HB hsl (fun i o hi ho d A W hd hk hI hs=>step i o (by simpa using hi) (by simpa using ho) d A W hd hk hI (slots_of HB.len hs)) (fun d xs W hd hI=>tail d xs W (fun i hi=>hd i (by simpa using hi)) hI) _ _ _ _ (by simp) ?_ ?_ ?_
  · exact ⟨rfl,rfl,Nat.zero_le _,trivial,fun _ _=>rfl,fun i d _ hl=>(by rw [getD_replicate_false] at hl;cases hl),fun m h=>(by cases h),Nat.zero_le _⟩
  · rw [show (fun i=>(Array.replicate l.toArray.size false).getD i false)=fun _=>false from funext fun i=>getD_replicate_false _ _]
    exact h0 _
  · have:∀ j ∈ List.range l.toArray.size,(!(Array.replicate l.toArray.size false).getD j true)=true:=fun j hj=>by
      rw [getD_in (by have:=List.mem_range.1 hj;simp at this ⊢;omega) (getD_replicate_false _ _)];rfl
    rw [List.countP_eq_length.2 this,List.length_range]
end Go.Proofs.YtagebkachdmnbaaGreatDoor.Flow
end
section
namespace Go.Proofs.YtagebkachdmnbaaGreatDoor.Flow
open Go.RowKit Go.Proofs.YtagebkachdmnbaaGreatDoor.Mem
def Kp (B:Nat) (W W':World):Prop:=Below B W W'
end Go.Proofs.YtagebkachdmnbaaGreatDoor.Flow
end
