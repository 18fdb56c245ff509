/- Part 29 of the proof: what is used of the texts PrsO. -/
import Derived.Test.YtagebkachdmnbaaGreatDoorEC7
section
namespace Go.Proofs.YtagebkachdmnbaaGreatDoor.Prs
open Go.Proofs.YtagebkachdmnbaaGreatDoor.Expr Go.Proofs.YtagebkachdmnbaaGreatDoor.Prog
open Go.Proofs.YtagebkachdmnbaaGreatDoor.Lex (Tok isL isLD isD isS)
structure Pcs (ts:List Lex.Tok):Prop where
  good:Good ts
  low:∀ j,kindAt ts j<=3
  fin:∀ j,kindAt ts j=0->ltrs ts j=[]
  digit:∀ j,kindAt ts j=1->∃ c r,ltrs ts j=c :: r/\isD c=true
  word:∀ j,kindAt ts j=2->∃ c r,ltrs ts j=c :: r/\isL c=true
  sign:∀ j,kindAt ts j=3->∃ c r,ltrs ts j=c :: r/\isLD c=false
  some:0<ts.length
  few:ts.length<=4097
theorem emits_what {t:Lex.Tok} (h:Lex.Emits t):t.num<18446744073709551616/\((t.kind=1/\∃ c r,t.text=c :: r/\isD c=true) \/ (t.kind=2/\∃ c r,t.text=c :: r/\isL c=true) \/ (t.kind=3/\∃ c r,t.text=c :: r/\isLD c=false)):=by
  obtain ⟨l,h,ht⟩:=h
  obtain ⟨kind,text,nu,line,col⟩:=t
  simp only at h ht ⊢
  have hd:∀ {n:Nat} {c:UInt8} {m:List UInt8},(c :: m).take n=text->n≠0->∃ r,text=c :: r:=fun {n c m} h hn=>by
    cases n with
    | zero=>exact absurd rfl hn
    | succ n=>exact ⟨m.take n,by rw [<- h];rfl⟩
  have hp:text.length≠0:=by
    cases l with
    | nil=>cases h
    | cons a m =>
      have:=Lex.one_len a m
      rw [h] at this
      simp only [Lex.Step.len] at this
      omega
  cases l with
  | nil=>cases h
  | cons a m =>
    obtain ⟨r,hr⟩:=hd ht hp
    rw [Lex.one_cons] at h
    by_cases h1:Lex.isB a=true
    · rw [if_pos h1] at h;cases h
    rw [if_neg h1] at h
    by_cases h2:(a == 35)=true
    · rw [if_pos h2] at h;cases h
    rw [if_neg h2] at h
    by_cases h3:isD a=true
    · rw [if_pos h3] at h
      by_cases h4:Lex.num ((a :: m).takeWhile isD)<Lex.top
      · rw [if_pos h4] at h
        injection h with e1 e2 e3
        exact ⟨by rw [<- e3];exact h4,.inl ⟨e1.symm,a,r,hr,h3⟩⟩
      · rw [if_neg h4] at h;cases h
    rw [if_neg h3] at h
    by_cases h5:isL a=true
    · rw [if_pos h5] at h
      injection h with e1 e2 e3
      exact ⟨by omega,.inr (.inl ⟨e1.symm,a,r,hr,h5⟩)⟩
    rw [if_neg h5] at h
    by_cases h6:isS a=true
    · rw [if_pos h6] at h
      have hld:isLD a=false:=by
        unfold Lex.isLD
        rw [Bool.or_eq_false_iff]
        exact ⟨by simpa using h5,by simpa using h3⟩
      split at h
      all_goals
        injection h with e1 e2 e3
        exact ⟨by omega,.inr (.inr ⟨e1.symm,a,r,hr,hld⟩)⟩
    · rw [if_neg h6] at h;cases h
theorem tk_out {ts:List Lex.Tok} {j:Nat} (h:¬ j<ts.length):tk ts j=⟨0,[],0,0,0⟩:=by
  unfold tk
  rw [List.getD_eq_getElem?_getD,List.getElem?_eq_none (by omega)];rfl
theorem pcs_of {l:List UInt8} {ts:List Lex.Tok} (h:Lex.lexAll l = .ok ts):Pcs ts:=by
  unfold Lex.lexAll at h
  by_cases hl:l.length<=4096
  · rw [if_pos hl] at h
    obtain ⟨body,e,rfl,e1,e2,e3,hb⟩:=Lex.lexF_emits _ _ _ _ (Nat.lt_succ_self _) h
    have hc:=Lex.lexF_count _ _ _ _ h
    have hlen:(body ++ [e]).length=body.length+1:=by simp
    have inb:∀ j,j<body.length->Lex.Emits (tk (body ++ [e]) j):=fun j hj=>by
      unfold tk
      rw [List.getD_eq_getElem?_getD,List.getElem?_append_left hj,List.getElem?_eq_getElem hj]
      exact hb _ (List.getElem_mem hj)
    have last:tk (body ++ [e]) body.length=e:=by
      unfold tk
      rw [List.getD_eq_getElem?_getD,List.getElem?_append_right (Nat.le_refl _),Nat.sub_self];rfl
    have all:∀ j,(j<body.length/\Lex.Emits (tk (body ++ [e]) j)) \/ (kindAt (body ++ [e]) j=0/\ltrs (body ++ [e]) j=[]/\numAt (body ++ [e]) j=0):=fun j=>by
      by_cases h1:j<body.length
      · exact .inl ⟨h1,inb j h1⟩
      · refine .inr ?_
        by_cases h2:j=body.length
        · subst h2
          unfold kindAt ltrs numAt
          rw [last];exact ⟨e1,e2,e3⟩
        · unfold kindAt ltrs numAt
          rw [tk_out (by omega)];exact ⟨rfl,rfl,rfl⟩
    have kinds:∀ j,kindAt (body ++ [e]) j≠0->j<body.length/\Lex.Emits (tk (body ++ [e]) j):=fun j hj=>(all j).resolve_right fun h=>hj h.1
    have fin:∀ j,kindAt (body ++ [e]) j=0->ltrs (body ++ [e]) j=[]:=fun j hj=>by
      rcases all j with ⟨_,h⟩ | h
      · rcases (emits_what h).2 with ⟨h,_⟩ | ⟨h,_⟩ | ⟨h,_⟩ <;> exact absurd hj (by unfold kindAt;omega)
      · exact h.2.1
    have low:∀ j,kindAt (body ++ [e]) j<=3:=fun j=>by
      rcases all j with ⟨_,h⟩ | h
      · unfold kindAt
        rcases (emits_what h).2 with ⟨h,_⟩ | ⟨h,_⟩ | ⟨h,_⟩ <;> omega
      · omega
    refine ⟨⟨fun j hj hk=>by have:=(kinds j hk).1;omega,fun j _=>fin j,fun j=>?_,fun j=>by have:=low j;omega⟩,low,fin,fun j hj=>?_,fun j hj=>?_,fun j hj=>?_,by omega,by omega⟩
    · rcases all j with ⟨_,h⟩ | h
      · exact (emits_what h).1
      · rw [h.2.2];decide
    · have hj':(tk (body ++ [e]) j).kind=1:=hj
      rcases (emits_what (kinds j (by omega)).2).2 with ⟨_,h⟩ | ⟨h,_⟩ | ⟨h,_⟩
      · exact h
      all_goals omega
    · have hj':(tk (body ++ [e]) j).kind=2:=hj
      rcases (emits_what (kinds j (by omega)).2).2 with ⟨h,_⟩ | ⟨_,h⟩ | ⟨h,_⟩
      · omega
      · exact h
      · omega
    · have hj':(tk (body ++ [e]) j).kind=3:=hj
      rcases (emits_what (kinds j (by omega)).2).2 with ⟨h,_⟩ | ⟨h,_⟩ | ⟨_,h⟩
      · omega
      · omega
      · exact h
  · rw [if_neg hl] at h;cases h
section
variable {ts : List Lex.Tok} {ask : Bool} {k k' : Nat}
theorem word_ok {α:Type} {f:List UInt8->Option α} {a:α} (h:wordF ts f k = .ok a k'):kindAt ts k=2/\f (ltrs ts k)=some a/\k' = k+1:=by
  unfold wordF at h
  split at h
  · rename_i hq
    split at h
    · rename_i x hx
      injection h with h1 h2
      subst h1;exact ⟨hq,hx,h2.symm⟩
    · cases h
  · cases h
theorem reg_ok {i:Nat} (h:regF ts k = .ok i k'):i<8/\k' = k+1:=by
  obtain ⟨_,hf,hk⟩:=word_ok h
  refine ⟨?_,hk⟩
  unfold regOf at hf
  split at hf
  · split at hf
    · injection hf with hf;omega
    · cases hf
  · cases hf
theorem loc_ok (hp:Pcs ts) {x:Nat} (h:locF ts k = .ok x k'):isLetter x/\x≠114/\k' = k+1:=by
  obtain ⟨hq,hf,hk⟩:=word_ok h
  obtain ⟨c,hs,hc,rfl⟩:=locOf_some hf
  obtain ⟨c',r,hs',hl⟩:=hp.word k hq
  rw [hs] at hs'
  injection hs' with e _
  subst e
  unfold Lex.isL at hl
  simp only [Bool.and_eq_true,decide_eq_true_eq] at hl
  exact ⟨hl,fun e=>hc (UInt8.toNat_inj.1 e),hk⟩
theorem sign_ok {s:List UInt8} {u:Unit} (h:signF ts s k = .ok u k'):ltrs ts k=s/\k' = k+1:=by
  unfold signF at h
  split at h
  · rename_i hc;injection h with _ h;exact ⟨hc,h.symm⟩
  · cases h
theorem bind_is {α β:Type} {o:Out α} {f:α->Nat->Out β} {b:β} (h:o.bind f = .ok b k'):∃ a k1,o = .ok a k1/\f a k1 = .ok b k':=by
  cases o with
  | ok a k1=>exact ⟨a,k1,rfl,h⟩
  | bad j e=>cases h
theorem leaf_ok (hp:Pcs ts) {e:Ex} (h:leafF ts ask k = .ok e k'):e.ok/\leafy ask e:=by
  unfold leafF at h
  cases ask with
  | true =>
    rw [if_pos rfl] at h
    split at h
    · split at h
      · split at h
        · rename_i hn
          obtain ⟨i,hi,rfl⟩:=map_ok h
          exact ⟨⟨hn,(reg_ok hi).1⟩,rfl⟩
        · cases h
      · injection h with h _;subst h;exact ⟨hp.good.num k,trivial⟩
    · obtain ⟨x,hx,rfl⟩:=map_ok h
      obtain ⟨h1,h2,_⟩:=loc_ok hp hx
      exact ⟨⟨h1.1,h1.2,h2⟩,rfl⟩
  | false =>
    rw [if_neg (by decide)] at h
    split at h
    · injection h with h _;subst h;exact ⟨hp.good.num k,trivial⟩
    · obtain ⟨i,hi,rfl⟩:=map_ok h
      exact ⟨(reg_ok hi).1,rfl⟩
def okE (ask:Bool) (e:Ex):Prop:=e.ok/\leafy ask e
def Gl.okG (ask:Bool):Gl->Prop
  | .loop _ least e=>1<=least/\okE ask e
  | .ops _ least=>1<=least
  | .part _=>True
theorem op1_is (h:op1 ts k≠0):op1 ts k=13 \/ op1 ts k=14:=sides_one.1 (opOf_sides h).1
theorem op2_is (h:op2 ts k≠0):1<=op2 ts k/\op2 ts k<=12:=sides_two.1 (opOf_sides h).1
theorem px_ok (hp:Pcs ts) {g:Gl} {out:Out Ex} (h:Px ts ask g k out):g.okG ask->∀ e k1,out = .ok e k1->okE ask e:=by
  induction h with
  | leaf _ _=>intro _ e k1 h;exact leaf_ok hp h
  | deep _ _=>intro _ e k1 h;cases h
  | sign h1 _ _ ih =>
    intro _ e k1 h
    obtain ⟨a,h',rfl⟩:=map_ok h
    have:=ih trivial _ _ h'
    exact ⟨⟨op1_is h1,this.1⟩,this.2⟩
  | paren _ _ _ _ ih =>
    intro _ e k1 h
    obtain ⟨k0,h2,_⟩:=close_ok h
    exact ih (Nat.le_refl 1) _ _ h2
  | first _ _ ih1 ih2=>intro hg e k1 h;exact ih2 ⟨hg,ih1 trivial _ _ rfl⟩ _ _ h
  | firstBad _ _=>intro _ e k1 h;cases h
  | stop _=>intro hg e k1 h;injection h with h _;subst h;exact hg.2
  | @go o least k k2 e r out h1 _ _ ih1 ih2 =>
    intro hg e' k1 h
    have hg1:1<=least:=hg.1
    have h0:op2 ts k≠0:=strongOp_pos (by omega)
    have hr:=ih1 (show 1<=strongOp (op2 ts k)+1 by omega) _ _ rfl
    have:=op2_is h0
    exact ih2 ⟨hg1,⟨this.1,this.2,hg.2.1,hr.1⟩,hg.2.2,hr.2⟩ _ _ h
  | goBad _ _ _=>intro _ e k1 h;cases h
theorem expr_ok (hp:Pcs ts) {e:Ex} (hk:k<ts.length) (h:exprF ts ask k = .ok e k'):okO (some e)/\leafyO ask (some e)/\k<k':=by
  obtain ⟨out,hx,_⟩:=(px_total (ask:=ask) hp.good (ts.length - k) k (Nat.le_refl _) hk).2 0 1 (by omega) (by omega)
  rw [exprF_of hx] at h
  cases out with
  | bad j er=>cases h
  | ok e1 k1 =>
    have h:(if 12<e1.depth then Out.bad k 4 else Out.ok e1 k1) = .ok e k':=h
    split at h
    · cases h
    · rename_i hd
      injection h with h1 h2
      subst h1 h2
      have:=px_ok hp hx (Nat.le_refl 1) _ _ rfl
      exact ⟨⟨this.1,by omega⟩,this.2,hx.grows _ _ rfl⟩
theorem mode_ok {kind m:Nat} (h:modeF ts kind k = .ok m k'):m ∈ modesL kind/\k' = k+1:=by
  obtain ⟨_,hf,hk⟩:=word_ok h
  exact ⟨List.mem_of_find?_eq_some hf,hk⟩
theorem modes_in {kind m:Nat} (h:m ∈ modesL kind):(kind=2/\(m=1 \/ m=2 \/ m=3)) \/ (kind=3/\(m=1 \/ m=2 \/ m=4)) \/ ((kind=4 \/ kind=5 \/ kind=6)/\(m=2 \/ m=3 \/ m=4 \/ m=5)) \/ (kind=7/\(m=3 \/ m=4 \/ m=5 \/ m=6)):=by
  unfold modesL at h
  split at h
  · rename_i h2;exact .inl ⟨h2,by simpa using h⟩
  split at h
  · rename_i h2;exact .inr (.inl ⟨h2,by simpa using h⟩)
  split at h
  · rename_i h2;exact .inr (.inr (.inl ⟨h2,by simpa using h⟩))
  split at h
  · rename_i h2;exact .inr (.inr (.inr ⟨h2,by simpa using h⟩))
  · cases h
theorem call_ok (hp:Pcs ts) {kind r:Nat} (hr:r<8) (h0:kind=3 \/ kind=7->r=0) (hk:k<ts.length) {m:Mk} (h:callF ts kind r k = .ok m k'):m.proper/\Plain m/\m.kind=kind/\k<k':=by
  have sgn:∀ {s:List UInt8} {k k1:Nat} {u:Unit},s ≠ []->k<ts.length->signF ts s k = .ok u k1->k1=k+1/\k1<ts.length:=fun hs hk h=>⟨(sign_ok h).2,((sign_in (lo:=0) hp.good hs hk (Nat.zero_le _)) _ _ h).2⟩
  unfold callF at h
  obtain ⟨_,k1,h1,h⟩:=bind_is h
  obtain ⟨rfl,l1⟩:=sgn (by simp) hk h1
  obtain ⟨x,k2,h2,h⟩:=bind_is h
  obtain ⟨a,k3,h3,h⟩:=bind_is h
  obtain ⟨b,k4,h4,h⟩:=bind_is h
  obtain ⟨md,k5,h5,h⟩:=bind_is h
  obtain ⟨_,k6,h6,h⟩:=bind_is h
  obtain ⟨_,h7,rfl⟩:=map_ok h
  have hx:k+1<=k2/\k2<ts.length/\(kind=7->x=0)/\(kind≠7->isLetter x)/\x≠114:=by
    by_cases h7:kind=7
    · rw [if_pos h7] at h2
      injection h2 with e1 e2
      subst e1 e2
      exact ⟨Nat.le_refl _,l1,fun _=>rfl,fun h=>absurd h7 h,by decide⟩
    · rw [if_neg h7] at h2
      obtain ⟨x',k8,h8,h2⟩:=bind_is h2
      obtain ⟨_,h9,rfl⟩:=map_ok h2
      obtain ⟨i1,i2,i3⟩:=loc_ok hp h8
      have l8:=(word_in (lo:=0) hp.good l1 (Nat.zero_le _) _ _ h8).2
      obtain ⟨rfl,l9⟩:=sgn (by simp) l8 h9
      exact ⟨by omega,l9,fun h=>absurd h h7,fun _=>i1,i2⟩
  obtain ⟨g2,l2,x1,x2,x3⟩:=hx
  have exo:∀ {k k1:Nat} {a:Option Ex},k<ts.length->((exprF ts false k).bind fun a k=>(signF ts [44] k).map fun _=>some a) = .ok a k1->k<k1/\k1<ts.length/\okO a/\leafyO false a/\a.isSome=true:=fun {k k1 a} hk h=>by
    obtain ⟨e,k8,h8,h⟩:=bind_is h
    obtain ⟨_,h9,rfl⟩:=map_ok h
    obtain ⟨i1,i2,i3⟩:=expr_ok hp hk h8
    have l8:=((expr_in (lo:=0) hp.good false hk (Nat.zero_le _)) _ _ h8).2
    obtain ⟨rfl,l9⟩:=sgn (by simp) l8 h9
    exact ⟨by omega,l9,i1,i2,rfl⟩
  have ha:k2<=k3/\k3<ts.length/\okO a/\leafyO false a/\((kind=7 \/ kind=2)->a=none)/\(¬ (kind=7 \/ kind=2)->a.isSome=true):=by
    by_cases h7:kind=7 \/ kind=2
    · rw [if_pos h7] at h3
      injection h3 with e1 e2
      subst e1 e2
      exact ⟨Nat.le_refl _,l2,trivial,trivial,fun _=>rfl,fun h=>absurd h7 h⟩
    · rw [if_neg h7] at h3
      obtain ⟨i1,i2,i3,i4,i5⟩:=exo l2 h3
      exact ⟨by omega,i2,i3,i4,fun h=>absurd h h7,fun _=>i5⟩
  obtain ⟨g3,l3,a1,a2,a3,a4⟩:=ha
  have hb:k3<=k4/\k4<ts.length/\okO b/\leafyO false b/\(kind≠6->b=none)/\(kind=6->b.isSome=true):=by
    by_cases h7:kind=6
    · rw [if_pos h7] at h4
      obtain ⟨i1,i2,i3,i4,i5⟩:=exo l3 h4
      exact ⟨by omega,i2,i3,i4,fun h=>absurd h7 h,fun _=>i5⟩
    · rw [if_neg h7] at h4
      injection h4 with e1 e2
      subst e1 e2
      exact ⟨Nat.le_refl _,l3,trivial,trivial,fun _=>rfl,fun h=>absurd h h7⟩
  obtain ⟨g4,l4,b1,b2,b3,b4⟩:=hb
  obtain ⟨m1,rfl⟩:=mode_ok h5
  have l5:=(word_in (lo:=0) hp.good l4 (Nat.zero_le _) _ _ h5).2
  obtain ⟨rfl,l6⟩:=sgn (by simp) l5 h6
  obtain ⟨rfl,l7⟩:=sgn (by simp) l6 h7
  refine ⟨⟨a1,b1,?_⟩,⟨a2,b2,x3,hr⟩,rfl,by omega⟩
  rcases modes_in m1 with ⟨rfl,hm⟩ | ⟨rfl,hm⟩ | ⟨rfl | rfl | rfl,hm⟩ | ⟨rfl,hm⟩
  · exact ⟨hm,x2 (by decide),a3 (.inr rfl),b3 (by decide)⟩
  · exact ⟨hm,x2 (by decide),h0 (.inl rfl),a4 (by decide),b3 (by decide)⟩
  · exact ⟨hm,x2 (by decide),a4 (by decide),b3 (by decide)⟩
  · exact ⟨hm,x2 (by decide),a4 (by decide),b3 (by decide)⟩
  · exact ⟨hm,x2 (by decide),a4 (by decide),b4 rfl⟩
  · exact ⟨hm,x1 rfl,h0 (.inr rfl),a3 (.inl rfl),b3 (by decide)⟩
theorem flat_ok (hp:Pcs ts) (hk:k<ts.length) {m:Mk} (h:flatF ts k = .ok m k'):m.proper/\Plain m/\m.kind<=7/\k<k':=by
  have hm:∀ {s:List UInt8} {k:Nat},s ≠ []->k<ts.length->ltrs ts k=s->k+1<ts.length:=fun hs hk hc=>hp.good.more _ hk fun h0=>hs (by rw [<- hc,hp.fin _ h0])
  unfold flatF at h
  split at h
  · rename_i hc
    obtain ⟨h1,h2,h3,h4⟩:=call_ok hp (by omega) (fun _=>rfl) (hm (by decide) hk hc) h
    exact ⟨h1,h2,by omega,by omega⟩
  split at h
  · rename_i hc
    obtain ⟨h1,h2,h3,h4⟩:=call_ok hp (by omega) (fun _=>rfl) (hm (by decide) hk hc) h
    exact ⟨h1,h2,by omega,by omega⟩
  obtain ⟨r,k1,h1,h⟩:=bind_is h
  obtain ⟨hr,rfl⟩:=reg_ok h1
  have l1:=(word_in (lo:=0) hp.good hk (Nat.zero_le _) _ _ h1).2
  obtain ⟨_,k2,h2,h⟩:=bind_is h
  have e2:=(sign_ok h2).2
  have l2:=(sign_in (lo:=0) hp.good (by simp) l1 (Nat.zero_le _) _ _ h2).2
  have hc7:∀ {kind k1:Nat},kind≠3/\kind≠7/\kind<=7->k<k1->k1<ts.length->callF ts kind r k1 = .ok m k' -> m.proper/\Plain m/\m.kind<=7/\k<k':=fun hn hl hk1 h=>by
    obtain ⟨h1,h2,h3,h4⟩:=call_ok hp hr (fun h=>by omega) hk1 h
    exact ⟨h1,h2,by omega,by omega⟩
  unfold gotF at h
  split at h
  · rename_i hc;exact hc7 (by omega) (by omega) (hm (by decide) l2 hc) h
  split at h
  · rename_i hc;exact hc7 (by omega) (by omega) (hm (by decide) l2 hc) h
  split at h
  · rename_i hc;exact hc7 (by omega) (by omega) (hm (by decide) l2 hc) h
  split at h
  · rename_i hc;exact hc7 (by omega) (by omega) (hm (by decide) l2 hc) h
  obtain ⟨a,k3,h3,h⟩:=bind_is h
  obtain ⟨_,h4,rfl⟩:=map_ok h
  obtain ⟨i1,i2,i3⟩:=expr_ok hp l2 h3
  have e4:=(sign_ok h4).2
  exact ⟨⟨i1,trivial,rfl,rfl,rfl,rfl⟩,⟨i2,trivial,(by show (0:Nat)≠114;decide),hr⟩,(by show (1:Nat)<=7;decide),by omega⟩
theorem cond_ok (hp:Pcs ts) (hk:k<ts.length) {a:Ex} (h:condF ts k = .ok a k'):okO (some a)/\leafyO false (some a)/\k<k' /\ k' < ts.length:=by
  have l0:=((cond_in (lo:=0) hp.good hk (Nat.zero_le _)) _ _ h).2
  unfold condF at h
  obtain ⟨_,k1,h1,h⟩:=bind_is h
  have e1:=(sign_ok h1).2
  have l1:=(sign_in (lo:=0) hp.good (by simp) hk (Nat.zero_le _) _ _ h1).2
  obtain ⟨e,k2,h2,h⟩:=bind_is h
  obtain ⟨_,h3,rfl⟩:=map_ok h
  have e3:=(sign_ok h3).2
  obtain ⟨i1,i2,i3⟩:=expr_ok hp l1 h2
  exact ⟨i1,i2,by omega,l0⟩
def may (d:Nat) (b:Blk):Prop:=b.proper/\plainB b/\d+b.deep<=9
def Gb.okG:Gb->Prop
  | .block _=>True
  | .more d q=>may d q
  | .stmt d=>d<=8
def Gb.okO:Gb->Nat->Nat->Blk->Prop
  | .block d,k,k',b=>may d b/\b.size+k<k'
  | .more d q,k,k',b=>may d b/\b.size+k<q.size+k'
  | .stmt d,k,k',b=>may d b/\b.size+k<=k' /\ b.len=1
theorem Blk.size_snoc (q:Blk) (m:Mk) (t e:Blk):(q.snoc m t e).size=q.size+(t.size+e.size+1):=by
  induction q with
  | nil=>simp [Blk.snoc,Blk.size]
  | cons m' t' e' r _ _ ih=>simp only [Blk.snoc,Blk.size,ih];omega
theorem may_snoc {d:Nat} {q t e:Blk} {m:Mk} (hq:may d q) (h:may d (.cons m t e .nil)):may d (q.snoc m t e):=by
  induction q with
  | nil=>exact h
  | cons m' t' e' r _ _ ih =>
    obtain ⟨⟨h1,h2,h3,h4,h5,h6⟩,⟨y1,y2,y3,y4⟩,hd⟩:=hq
    simp only [Blk.deep] at hd
    have hr:=ih ⟨h4,y4,by omega⟩
    obtain ⟨p1,p2,p3⟩:=hr
    exact ⟨⟨h1,h2,h3,p1,h5,h6⟩,⟨y1,y2,y3,p2⟩,by simp only [Blk.snoc,Blk.deep];omega⟩
theorem bx_ok (hp:Pcs ts) {g:Gb} {out:Out Blk} (h:Bx ts g k out):k<ts.length->g.okG->∀ b k1,out = .ok b k1->k1<ts.length/\g.okO k k1 b:=by
  have hm:∀ {s:List UInt8} {k:Nat},s ≠ []->k<ts.length->ltrs ts k=s->k+1<ts.length:=fun hs hk hc=>hp.good.more _ hk fun h0=>hs (by rw [<- hc,hp.fin _ h0])
  induction h with
  | none _=>intro _ _ b k1 h;cases h
  | deep _ _=>intro _ _ b k1 h;cases h
  | block h1 h2 _ ih =>
    intro hk _ b k1 h
    obtain ⟨l,h3,h4⟩:=ih (hm (by simp) hk h1) ⟨trivial,trivial,by simp only [Blk.deep];omega⟩ _ _ h
    simp only [Blk.size] at h4
    exact ⟨l,h3,by omega⟩
  | close h1 =>
    intro hk hg b k1 h
    injection h with e1 e2
    subst e1 e2
    exact ⟨hm (by simp) hk h1,hg,by omega⟩
  | @step d k k1 q t e m out h1 _ _ ih1 ih2 =>
    intro hk hg b k2 h
    have hd:d<=8:=by have:=hg.2.2;have:=q.deep_pos;omega
    obtain ⟨l1,hs1,hs2,hs3⟩:=ih1 hk hd _ _ rfl
    obtain ⟨l2,h3,h4⟩:=ih2 l1 (may_snoc hg hs1) _ _ h
    rw [Blk.size_snoc] at h4
    simp only [Blk.size] at hs2
    exact ⟨l2,h3,by omega⟩
  | stepBad _ _ _=>intro _ _ b k1 h;cases h
  | @flat d k h1 h2 =>
    intro hk hd b k1 h
    obtain ⟨m,hf,rfl⟩:=map_ok h
    obtain ⟨h3,h4,h5,h6⟩:=flat_ok hp hk hf
    have l1:=(flat_in (lo:=0) hp.good hk (Nat.zero_le _) _ _ hf).2
    have hd:d<=8:=hd
    refine ⟨l1,⟨⟨h3,trivial,trivial,trivial,fun _=>rfl,fun _ _=>rfl⟩,⟨h4,trivial,trivial,trivial⟩,?_⟩,by simp only [Blk.size];omega,rfl⟩
    simp only [Blk.deep]
    rw [if_neg (by omega),if_neg (by omega)];omega
  | headBad _ _=>intro _ _ b k1 h;cases h
  | thenBad _ _ _ _=>intro _ _ b k1 h;cases h
  | @loop d k k1 k2 a t h1 h2 _ ih =>
    intro hk _ b k3 h
    injection h with e1 e2
    subst e1 e2
    have l0:=hm (by decide) hk h1
    obtain ⟨c1,c2,c3,c4⟩:=cond_ok hp l0 h2
    obtain ⟨l1,h3,h4⟩:=ih c4 trivial _ _ rfl
    refine ⟨l1,⟨⟨⟨c1,trivial,rfl,rfl,rfl,rfl,rfl⟩,h3.1,trivial,trivial,fun _=>rfl,fun _ h=>absurd rfl h⟩,⟨⟨c2,trivial,(by show (0:Nat)≠114;decide),(by show (0:Nat)<8;decide)⟩,h3.2.1,trivial,trivial⟩,?_⟩,by simp only [Blk.size];omega,rfl⟩
    have:=h3.2.2
    have:=t.deep_pos
    simp only [Blk.deep]
    rw [if_neg (by decide),if_pos (by decide)];omega
  | @cond d k k1 k2 a t h1 h2 _ _ ih =>
    intro hk _ b k3 h
    injection h with e1 e2
    subst e1 e2
    have l0:=hm (by decide) hk h1
    obtain ⟨c1,c2,c3,c4⟩:=cond_ok hp l0 h2
    obtain ⟨l1,h3,h4⟩:=ih c4 trivial _ _ rfl
    refine ⟨l1,⟨⟨⟨c1,trivial,rfl,rfl,rfl,rfl,rfl⟩,h3.1,trivial,trivial,fun _=>rfl,fun h=>absurd rfl h⟩,⟨⟨c2,trivial,(by show (0:Nat)≠114;decide),(by show (0:Nat)<8;decide)⟩,h3.2.1,trivial,trivial⟩,?_⟩,by simp only [Blk.size];omega,rfl⟩
    have:=h3.2.2
    have:=t.deep_pos
    simp only [Blk.deep]
    rw [if_pos (by decide)];omega
  | @other d k k1 k2 a t out h1 h2 _ h5 _ ih ih2 =>
    intro hk _ b k3 h
    obtain ⟨e,rfl,rfl⟩:=map_ok h
    have l0:=hm (by decide) hk h1
    obtain ⟨c1,c2,c3,c4⟩:=cond_ok hp l0 h2
    obtain ⟨l1,h3,h4⟩:=ih c4 trivial _ _ rfl
    obtain ⟨l2,h6,h7⟩:=ih2 (hm (by decide) l1 h5) trivial _ _ rfl
    refine ⟨l2,⟨⟨⟨c1,trivial,rfl,rfl,rfl,rfl,rfl⟩,h3.1,h6.1,trivial,fun h=>absurd rfl h,fun h=>absurd rfl h⟩,⟨⟨c2,trivial,(by show (0:Nat)≠114;decide),(by show (0:Nat)<8;decide)⟩,h3.2.1,h6.2.1,trivial⟩,?_⟩,by simp only [Blk.size];omega,rfl⟩
    have:=h3.2.2
    have:=h6.2.2
    have:=t.deep_pos
    simp only [Blk.deep]
    rw [if_pos (by decide)];omega
theorem init_ok (hp:Pcs ts) (hk:k<ts.length) {x:Nat × Nat} (h:initF ts k = .ok x k'):isLetter x.1/\x.1≠114/\x.2<18446744073709551616/\k' = k+4/\k' < ts.length:=by
  have l0:=(init_in (lo:=0) hp.good hk (Nat.zero_le _) _ _ h).2
  unfold initF at h
  obtain ⟨a,k1,h1,h⟩:=bind_is h
  obtain ⟨i1,i2,e1⟩:=loc_ok hp h1
  obtain ⟨_,k2,h2,h⟩:=bind_is h
  have e2:=(sign_ok h2).2
  obtain ⟨n,k3,h3,h⟩:=bind_is h
  obtain ⟨_,h4,rfl⟩:=map_ok h
  have e4:=(sign_ok h4).2
  split at h3
  · injection h3 with e5 e6
    exact ⟨i1,i2,by rw [<- e5];exact hp.good.num _,by omega,l0⟩
  · cases h3
theorem ask_ok (hp:Pcs ts) (hk:k<ts.length) {l:List (Nat × Nat)} {q:List Blk} {t:Ts} (h:askF ts l q k = .ok t k'):t.init=l/\t.threads=q/\t.ask.isSome=true/\okO t.ask/\leafyO true t.ask:=by
  unfold askF at h
  split at h
  · rename_i hq
    have l1:=hp.good.more k hk (by omega)
    split at h
    · obtain ⟨a,k1,h1,h⟩:=bind_is h
      obtain ⟨i1,i2,_⟩:=expr_ok hp l1 h1
      obtain ⟨_,k2,h2,h⟩:=bind_is h
      split at h
      · injection h with h _;subst h;exact ⟨rfl,rfl,rfl,i1,i2⟩
      · cases h
    · cases h
  · cases h
def Gt.okG (k:Nat):Gt->Prop
  | .inits l=>(∀ i ∈ l,isLetter i.1/\i.1≠114/\i.2<18446744073709551616)/\5 * l.length<=k
  | .threads l q=>((∀ i ∈ l,isLetter i.1/\i.1≠114/\i.2<18446744073709551616)/\l.length<=1000)/\(∀ b ∈ q,may 1 b/\b.size<=4097)/\q.length<=4
structure Read (t:Ts):Prop where
  prints:Prints t
  init:t.init.length<=1000
  each:∀ b ∈ t.threads,b.size<=4097
theorem tx_ok (hp:Pcs ts) {g:Gt} {out:Out Ts} (h:Tx ts g k out):k<ts.length->g.okG k->∀ t k1,out = .ok t k1->Read t:=by
  have hm:∀ {s:List UInt8} {k:Nat},s ≠ []->k<ts.length->ltrs ts k=s->k+1<ts.length:=fun hs hk hc=>hp.good.more _ hk fun h0=>hs (by rw [<- hc,hp.fin _ h0])
  induction h with
  | init h1 h2 _ ih =>
    intro hk hg t k1 h
    obtain ⟨i1,i2,i3,i4,i5⟩:=init_ok hp (hm (by decide) hk h1) h2
    refine ih i5 ⟨fun i hi=>?_,by have:=hg.2;simp;omega⟩ _ _ h
    rcases List.mem_append.1 hi with hi | hi
    · exact hg.1 i hi
    · obtain rfl:i=_:=by simpa using hi
      exact ⟨i1,i2,i3⟩
  | initBad _ _=>intro _ _ t k1 h;cases h
  | inited _ _ ih =>
    intro hk hg t k1 h
    exact ih hk ⟨⟨hg.1,by have:=hg.2;have:=hp.few;omega⟩,by simp,by simp⟩ _ _ h
  | many _ _=>intro _ _ t k1 h;cases h
  | thread h1 h2 h3 _ ih =>
    intro hk hg t k1 h
    obtain ⟨l1,b1,b2⟩:=bx_ok hp h3 (hm (by decide) hk h1) trivial _ _ rfl
    have:=hp.few
    refine ih l1 ⟨hg.1,fun b hb=>?_,by simp;omega⟩ _ _ h
    rcases List.mem_append.1 hb with hb | hb
    · exact hg.2.1 b hb
    · obtain rfl:b=_:=by simpa using hb
      exact ⟨b1,by omega⟩
  | threadBad _ _ _=>intro _ _ t k1 h;cases h
  | ask _ =>
    intro hk hg t k1 h
    obtain ⟨rfl,rfl,a3,a4,a5⟩:=ask_ok hp hk h
    obtain ⟨⟨g1,g2⟩,g3,g4⟩:=hg
    exact ⟨⟨⟨fun i hi=>(g1 i hi).1,fun b hb=>⟨(g3 b hb).1.1,by have:=(g3 b hb).1.2.2;omega⟩,a3,a4⟩,fun i hi=>⟨(g1 i hi).2.1,(g1 i hi).2.2⟩,fun b hb=>(g3 b hb).1.2.1,g4,a5⟩,g2,fun b hb=>(g3 b hb).2⟩
end
theorem read_ok {l:List UInt8} {ts:List Lex.Tok} {t:Ts} {k:Nat} (h:Lex.lexAll l = .ok ts) (hx:Tx ts (.inits []) 0 (.ok t k)):Read t :=
  tx_ok (pcs_of h) hx (pcs_of h).some ⟨by simp,by simp⟩ _ _ rfl
end Go.Proofs.YtagebkachdmnbaaGreatDoor.Prs
end
