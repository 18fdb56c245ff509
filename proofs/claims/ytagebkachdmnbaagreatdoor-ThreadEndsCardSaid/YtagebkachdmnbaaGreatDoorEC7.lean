/- Part 28 of the proof: what is used of the texts PrsM, PrsN. -/
import Derived.Test.YtagebkachdmnbaaGreatDoorEC6
section
namespace Go.Proofs.YtagebkachdmnbaaGreatDoor.Prs
open Go.Proofs.YtagebkachdmnbaaGreatDoor.Expr Go.Proofs.YtagebkachdmnbaaGreatDoor.Prog
open Go.Proofs.YtagebkachdmnbaaGreatDoor.Lex (Tok isL isLD isD)
def At (ts:List Lex.Tok) (k:Nat) (rs:List Raw):Prop:=∀ i r,rs[i]? = some r->raw (tk ts (k+i))=r
section
variable {ts : List Lex.Tok} {ask : Bool} {k : Nat} {rs r2 : List Raw}
theorem At.head {r:Raw} (h:At ts k (r :: rs)):raw (tk ts k)=r:=h 0 r rfl
theorem At.tail {r:Raw} (h:At ts k (r :: rs)):At ts (k+1) rs:=fun i x hx=>by
  rw [show k+1+i=k+(i+1) by omega];exact h (i+1) x (by simpa using hx)
theorem At.left (h:At ts k (rs ++ r2)):At ts k rs:=fun i x hx=>h i x (by rw [List.getElem?_append_left (List.getElem?_eq_some_iff.1 hx).1];exact hx)
theorem At.right (h:At ts k (rs ++ r2)):At ts (k+rs.length) r2:=fun i x hx=>by
  rw [Nat.add_assoc];exact h (rs.length+i) x (by rw [List.getElem?_append_right (by omega)];simpa using hx)
theorem At.sg {s:List UInt8} (h:At ts k (sg s :: rs)):ltrs ts k=s/\kindAt ts k=3:=⟨congrArg Raw.text h.head,congrArg Raw.kind h.head⟩
theorem At.wd {s:List UInt8} (h:At ts k (wd s :: rs)):ltrs ts k=s/\kindAt ts k=2:=⟨congrArg Raw.text h.head,congrArg Raw.kind h.head⟩
theorem At.nm {n:Nat} (h:At ts k (nm n :: rs)):ltrs ts k=dec n/\kindAt ts k=1/\numAt ts k=n:=⟨congrArg Raw.text h.head,congrArg Raw.kind h.head,congrArg Raw.num h.head⟩
theorem At.sign {s:List UInt8} (h:At ts k (Prs.sg s :: rs)):signF ts s k = .ok () (k+1):=by unfold signF;rw [if_pos h.sg.1]
theorem At.word {α:Type} {f:List UInt8->Option α} {s:List UInt8} {a:α} (h:At ts k (Prs.wd s :: rs)) (hf:f s=some a):wordF ts f k = .ok a (k+1):=by
  unfold wordF;rw [if_pos h.wd.2,h.wd.1,hf]
theorem dec_small {i:Nat} (h:i<8):dec i=[(48+i).toUInt8]:=by
  obtain rfl | rfl | rfl | rfl | rfl | rfl | rfl | rfl:i=0 \/ i=1 \/ i=2 \/ i=3 \/ i=4 \/ i=5 \/ i=6 \/ i=7:=by omega
  all_goals simp [dec,Lib.decDigits]
theorem regOf_dec {i:Nat} (h:i<8):regOf (114 :: dec i)=some i:=by
  rw [dec_small h]
  obtain rfl | rfl | rfl | rfl | rfl | rfl | rfl | rfl:i=0 \/ i=1 \/ i=2 \/ i=3 \/ i=4 \/ i=5 \/ i=6 \/ i=7:=by omega
  all_goals decide
theorem At.reg {i:Nat} (hi:i<8) (h:At ts k (Prs.wd (114 :: dec i) :: rs)):regF ts k = .ok i (k+1):=h.word (regOf_dec hi)
theorem locOf_x {x:Nat} (h:isLetter x) (hr:x≠114):locOf [x.toUInt8]=some x:=by
  have e:=(loc_letter h).2
  have hne:x.toUInt8≠114:=fun h=>hr (by rw [<- e,h];rfl)
  unfold locOf
  simp only
  rw [if_neg hne,e]
theorem At.loc {x:Nat} (h:isLetter x) (hr:x≠114) (ha:At ts k (Prs.wd [x.toUInt8] :: rs)):locF ts k = .ok x (k+1):=ha.word (locOf_x h hr)
def leafy (ask:Bool):Ex->Prop
  | .num _=>True
  | .reg _=>ask=false
  | .of _ _=>ask=true
  | .loc _=>ask=true
  | .one _ a=>leafy ask a
  | .two _ a b=>leafy ask a/\leafy ask b
def Fo (ts:List Lex.Tok) (j n:Nat):Prop:=strongOp (op2 ts j)<=n/\ltrs ts j ≠ [58]
theorem opOf_ld {n:Nat} {c:UInt8} {s:List UInt8} (h:isLD c=true):opOf n (c :: s)=0:=by
  refine opOf_miss fun i h1 h2=>?_
  unfold opIs
  have hne:sign i≠c :: s:=by
    intro e
    obtain rfl | rfl | rfl | rfl | rfl | rfl | rfl | rfl | rfl | rfl | rfl | rfl | rfl | rfl:i=1 \/ i=2 \/ i=3 \/ i=4 \/ i=5 \/ i=6 \/ i=7 \/ i=8 \/ i=9 \/ i=10 \/ i=11 \/ i=12 \/ i=13 \/ i=14:=by omega
    all_goals
      injection e with e _
      subst e
      exact absurd h (by decide)
  rw [decide_eq_false hne,Bool.and_false]
theorem not_paren {c:UInt8} {s:List UInt8} (h:isLD c=true):c :: s ≠ [40]:=by
  intro e
  injection e with e _
  subst e
  exact absurd h (by decide)
theorem dec_head (n:Nat):∃ c r,dec n=c :: r/\isLD c=true:=by
  obtain ⟨c,r,h,_⟩:=dec_cons n
  exact ⟨c,r,h,dec_ld n c (by rw [h];simp)⟩
theorem opOf_two {op:Nat} (h1:1<=op) (h2:op<=12):opOf 2 (sign op)=op:=by
  obtain rfl | rfl | rfl | rfl | rfl | rfl | rfl | rfl | rfl | rfl | rfl | rfl:op=1 \/ op=2 \/ op=3 \/ op=4 \/ op=5 \/ op=6 \/ op=7 \/ op=8 \/ op=9 \/ op=10 \/ op=11 \/ op=12:=by omega
  all_goals decide
theorem opOf_one {op:Nat} (h:op=13 \/ op=14):opOf 1 (sign op)=op:=by
  rcases h with rfl | rfl <;> decide
theorem leaf_px {e:Ex} (hl:e.isLeaf=true) (ho:e.ok) (hy:leafy ask e) (h:At ts k (rawsE e)) (hf:ltrs ts (k+(rawsE e).length) ≠ [58]) (o:Nat):Px ts ask (.part o) k (.ok e (k+(rawsE e).length)):=by
  have key:leafF ts ask k = .ok e (k+(rawsE e).length)/\op1 ts k=0/\ltrs ts k ≠ [40]:=by
    cases e with
    | num n =>
      have h:At ts k [nm n]:=h
      obtain ⟨h1,h2,h3⟩:=h.nm
      obtain ⟨c,r,hd,hc⟩:=dec_head n
      refine ⟨?_,by unfold op1;rw [h1,hd];exact opOf_ld hc,by rw [h1,hd];exact not_paren hc⟩
      unfold leafF
      rw [h2,h3]
      have hf:ltrs ts (k+1) ≠ [58]:=hf
      cases ask with
      | true=>simp only [if_true,if_neg hf];rfl
      | false=>rfl
    | reg i =>
      have h:At ts k [Prs.wd (114 :: dec i)]:=h
      obtain ⟨h1,h2⟩:=h.wd
      refine ⟨?_,by unfold op1;rw [h1];exact opOf_ld (by decide),by rw [h1];exact not_paren (by decide)⟩
      have hy:ask=false:=hy
      subst hy
      unfold leafF
      rw [h2,h.reg ho]
      rfl
    | of t i =>
      have h:At ts k [nm t,Prs.sg [58],Prs.wd (114 :: dec i)]:=h
      obtain ⟨h1,h2,h3⟩:=h.nm
      obtain ⟨c,r,hd,hc⟩:=dec_head t
      refine ⟨?_,by unfold op1;rw [h1,hd];exact opOf_ld hc,by rw [h1,hd];exact not_paren hc⟩
      have hy:ask=true:=hy
      subst hy
      unfold leafF
      rw [h2,h3,h.tail.sg.1]
      simp only [if_true,if_pos ho.1]
      rw [show k+2=k+1+1 from rfl,h.tail.tail.reg ho.2]
      rfl
    | loc x =>
      have h:At ts k [Prs.wd [x.toUInt8]]:=h
      obtain ⟨h1,h2⟩:=h.wd
      have hx:isLetter x:=⟨ho.1,ho.2.1⟩
      have hld:isLD x.toUInt8=true:=by unfold isLD;rw [(loc_letter hx).1];rfl
      refine ⟨?_,by unfold op1;rw [h1];exact opOf_ld hld,by rw [h1];exact not_paren hld⟩
      have hy:ask=true:=hy
      subst hy
      unfold leafF
      rw [h2,h.loc hx ho.2.2]
      rfl
    | one op a=>cases hl
    | two op a b=>cases hl
  rw [<- key.1]
  exact .leaf key.2.1 key.2.2
def req:Ex->Nat->Prop
  | .two op a b,o=>o+(Ex.two op a b).depth<=14
  | e,o=>o+e.depth<=13
theorem req_of {e:Ex} {o:Nat} (h:o+e.depth<=13):req e o:=by
  cases e <;> simp only [req] <;> omega
theorem len_par (rs:List Raw):(parR rs).length=rs.length+2:=by simp [parR]
theorem op2_of {s:List UInt8} (hc:opOf 2 s=0) (h:ltrs ts k=s):op2 ts k=0:=by unfold op2;rw [h];exact hc
structure Reads (ts:List Lex.Tok) (ask:Bool) (e:Ex):Prop where
  ops:∀ (o k least:Nat) (out:Out Ex),req e o->1<=least->least<=e.strong->At ts k (rawsE e)->Fo ts (k+(rawsE e).length) e.strong->Px ts ask (.loop o least e) (k+(rawsE e).length) out->Px ts ask (.ops o least) k out
  part:4<=e.strong->∀ (o k:Nat),req e o->At ts k (rawsE e)->ltrs ts (k+(rawsE e).length) ≠ [58]->Px ts ask (.part o) k (.ok e (k+(rawsE e).length))
theorem Reads.par {e:Ex} (H:Reads ts ask e) (he:e.ok) (h2:2<=e.depth) (hs:e.strong<4) (h1s:1<=e.strong) {o k:Nat} (ho:o+e.depth<=13) (h:At ts k (parR (rawsE e))):Px ts ask (.part o) k (.ok e (k+(rawsE e).length+2)):=by
  have ht:=h.tail
  have hc:At ts (k+1+(rawsE e).length) [sg [41]]:=ht.right
  have h41:=hc.sg.1
  have h0:op2 ts (k+1+(rawsE e).length)=0:=op2_of (by decide) h41
  have hq:req e (o+1):=by
    cases e with
    | one op a =>
      have h4:=one_strong he.1
      have hs:strongOp op<4:=hs
      omega
    | two op a b=>simp only [req];omega
    | _=>exact absurd h2 (by simp [Ex.depth])
  have hin:=H.ops (o+1) (k+1) 1 (.ok e (k+1+(rawsE e).length)) hq (by omega) h1s ht.left ⟨by rw [h0];exact Nat.zero_le _,by rw [h41];decide⟩ (.stop (by rw [h0];decide))
  have:=Px.paren (o:=o) (by unfold op1;rw [h.sg.1];decide) h.sg.1 (by omega) hin
  have e2:(Out.ok e (k+1+(rawsE e).length)).close ts = .ok e (k+(rawsE e).length+2):=by
    show (signF ts [41] (k+1+(rawsE e).length)).map _=_
    rw [hc.sign]
    show Out.ok e _=_
    congr 1;omega
  rwa [e2] at this
theorem Ex.two_of {e:Ex} (ho:e.ok) (h:e.strong<4):2<=e.depth/\1<=e.strong:=by
  cases e with
  | two op a b =>
    have:=depth_pos a
    have h1:=strong_pos ho.1 ho.2.1
    simp only [Ex.depth,Ex.strong];omega
  | one op a=>rcases ho.1 with rfl | rfl <;> exact absurd h (by simp [Ex.strong,strongOp])
  | _=>exact absurd h (by simp [Ex.strong])
theorem Reads.at {e:Ex} (H:Reads ts ask e) (he:e.ok) {n:Nat} (hn:n<=4) {o k least:Nat} {out:Out Ex} (ho:o+e.depth<=13) (h1:1<=least) (hl:least<=n) (h:At ts k (atR n e)) (hf:Fo ts (k+(atR n e).length) n)
    (hx:Px ts ask (.loop o least e) (k+(atR n e).length) out):Px ts ask (.ops o least) k out:=by
  by_cases hs:e.strong<n
  · have ea:atR n e=parR (rawsE e):=if_pos hs
    rw [ea] at h hx
    rw [len_par] at hx
    have h2:=Ex.two_of he (by omega)
    exact .first (H.par he h2.1 (by omega) h2.2 ho h) hx
  · have ea:atR n e=rawsE e:=if_neg hs
    rw [ea] at h hx hf
    exact H.ops o k least out (req_of ho) h1 (by omega) h ⟨Nat.le_trans hf.1 (by omega),hf.2⟩ hx
theorem Reads.at4 {e:Ex} (H:Reads ts ask e) (he:e.ok) {o k:Nat} (ho:o+e.depth<=13) (h:At ts k (atR 4 e)) (hf:ltrs ts (k+(atR 4 e).length) ≠ [58]):Px ts ask (.part o) k (.ok e (k+(atR 4 e).length)):=by
  by_cases hs:e.strong<4
  · have ea:atR 4 e=parR (rawsE e):=if_pos hs
    rw [ea] at h ⊢
    rw [len_par]
    have h2:=Ex.two_of he hs
    exact H.par he h2.1 hs h2.2 ho h
  · have ea:atR 4 e=rawsE e:=if_neg hs
    rw [ea] at h hf ⊢
    exact H.part (by omega) o k (req_of ho) h hf
theorem Reads.leaf {e:Ex} (hl:e.isLeaf=true) (ho:e.ok) (hy:leafy ask e):Reads ts ask e :=
  ⟨fun _ _ _ _ _ _ _ h hf hx => .first (leaf_px hl ho hy h hf.2 _) hx,fun _ _ _ _ h hf=>leaf_px hl ho hy h hf _⟩
theorem reads (e:Ex) (he:e.ok) (hy:leafy ask e):Reads ts ask e:=by
  induction e with
  | num n=>exact .leaf rfl he hy
  | reg i=>exact .leaf rfl he hy
  | of t i=>exact .leaf rfl he hy
  | loc x=>exact .leaf rfl he hy
  | one op a ih =>
    have H:=ih he.2 hy
    have hp:∀ (o k:Nat),req (.one op a) o->At ts k (rawsE (.one op a))->ltrs ts (k+(rawsE (.one op a)).length) ≠ [58]->Px ts ask (.part o) k (.ok (.one op a) (k+(rawsE (.one op a)).length)):=by
      intro o k hr h hf
      rw [raws_one,one_strong he.1] at h hf ⊢
      have hr:o+(a.depth+1)<=13:=hr
      have hd:=depth_pos a
      have h1:=h.sg.1
      have ho1:op1 ts k=op:=by unfold op1;rw [h1];exact opOf_one he.1
      simp only [List.length_cons] at hf ⊢
      have hin:=H.at4 he.2 (o:=o+1) (k:=k+1) (by omega) h.tail (by rw [show k+1+(atR 4 a).length=k+((atR 4 a).length+1) by omega];exact hf)
      have:=Px.sign (o:=o) (k:=k) (ts:=ts) (ask:=ask) (by rw [ho1];rcases he.1 with h | h <;> omega) (by omega) hin
      rw [ho1] at this
      rw [show k+((atR 4 a).length+1)=k+1+(atR 4 a).length by omega]
      exact this
    exact ⟨fun o k least out hr _ _ h hf hx => .first (hp o k hr h hf.2) hx,fun _=>hp⟩
  | two op a b iha ihb =>
    have hs:=strong_pos he.1 he.2.1
    refine ⟨fun o k least out hr h1 hl h hf hx=>?_,fun h4=>absurd h4 (by simp only [Ex.strong];omega)⟩
    have hl:least<=strongOp op:=hl
    have hf:Fo ts (k+(rawsE (.two op a b)).length) (strongOp op):=hf
    have hr:o+(max a.depth b.depth+1)<=14:=hr
    rw [raws_two] at h hf hx
    simp only [List.length_append,List.length_cons] at hf hx
    have hm:=h.right
    have h2:op2 ts (k+(atR (strongOp op) a).length)=op:=by unfold op2;rw [hm.sg.1];exact opOf_two he.1 he.2.1
    have hne:sign op ≠ [58]:=fun e=>by
      have:=opOf_two he.1 he.2.1
      rw [e,show opOf 2 [58]=0 by decide] at this
      have:=he.1;omega
    refine (iha he.2.2.1 hy.1).at he.2.2.1 (n:=strongOp op) (by omega) (by omega) h1 hl h.left ⟨by rw [h2];exact Nat.le_refl _,by rw [hm.sg.1];exact hne⟩ ?_
    have e3:k+((atR (strongOp op) a).length+((atR (strongOp op+1) b).length+1))=k+(atR (strongOp op) a).length+1+(atR (strongOp op+1) b).length:=by omega
    rw [e3] at hf hx
    refine .go (k2:=k+(atR (strongOp op) a).length+1+(atR (strongOp op+1) b).length) (r:=b) (by rw [h2];exact hl) ?_ (by rw [h2];exact hx)
    rw [h2]
    exact (ihb he.2.2.2 hy.2).at he.2.2.2 (n:=strongOp op+1) (by omega) (by omega) (by omega) (Nat.le_refl _) hm.tail ⟨Nat.le_succ_of_le hf.1,hf.2⟩ (.stop (Nat.lt_succ_of_le hf.1))
theorem expr_at {e:Ex} (he:e.ok) (hd:e.depth<=12) (hy:leafy ask e) (h:At ts k (rawsE e ++ rs)) (h0:op2 ts (k+(rawsE e).length)=0) (hc:ltrs ts (k+(rawsE e).length) ≠ [58]):exprF ts ask k = .ok e (k+(rawsE e).length):=by
  have hpos:1<=e.strong:=by
    by_cases hs:e.strong<4
    · exact (Ex.two_of he hs).2
    · omega
  rw [exprF_of ((reads e he hy).ops 0 k 1 (.ok e (k+(rawsE e).length)) (req_of (by omega)) (Nat.le_refl _) hpos h.left ⟨by rw [h0];exact Nat.zero_le _,hc⟩ (.stop (by rw [h0];decide)))]
  show (if 12<e.depth then _ else _)=_
  rw [if_neg (by omega)]
end
end Go.Proofs.YtagebkachdmnbaaGreatDoor.Prs
end
section
namespace Go.Proofs.YtagebkachdmnbaaGreatDoor.Prs
open Go.Proofs.YtagebkachdmnbaaGreatDoor.Expr Go.Proofs.YtagebkachdmnbaaGreatDoor.Prog
open Go.Proofs.YtagebkachdmnbaaGreatDoor.Lex (Tok isL isLD isD)
section
variable {ts : List Lex.Tok} {ask : Bool} {k : Nat} {rs r2 : List Raw}
def leafyO (ask:Bool):Option Ex->Prop
  | none=>True
  | some e=>leafy ask e
structure Plain (m:Mk):Prop where
  a:leafyO false m.a
  b:leafyO false m.b
  loc:m.loc≠114
  reg:m.reg<8
theorem exO_at {a:Option Ex} (ho:okO a) (hi:a.isSome=true) (hy:leafyO ask a) {s:List UInt8} (hs:opOf 2 s=0) (hn:s ≠ [58]) (h:At ts k (exR a ++ sg s :: rs)):exprF ts ask k = .ok (a.get hi) (k+(exR a).length):=by
  cases a with
  | none=>cases hi
  | some e =>
    have hx:=h.right.sg.1
    exact expr_at ho.1 ho.2 hy h (op2_of hs hx) (by show ltrs ts (k+(rawsE e).length)≠_;rw [show k+(rawsE e).length=k+(exR (some e)).length from rfl,hx];exact hn)
theorem get_some {α:Type} {a:Option α} (h:a.isSome=true):some (a.get h)=a:=by cases a <;> simp_all
theorem first_text {e:Ex} (ho:e.ok) (hy:leafy false e):∃ r rs c s,rawsE e=r :: rs/\r.text=c :: s/\(isL c=false \/ c=114):=by
  induction e with
  | num n =>
    obtain ⟨c,s,hd,hc⟩:=dec_cons n
    refine ⟨_,_,c,s,rfl,hd,.inl ?_⟩
    have:=isDig_isD hc
    unfold isD at this
    unfold isL
    simp only [Bool.and_eq_true,decide_eq_true_eq] at this
    simp only [Bool.and_eq_false_iff,decide_eq_false_iff_not];omega
  | reg i=>exact ⟨_,_,114,dec i,rfl,rfl,.inr rfl⟩
  | of t i=>cases hy
  | loc x=>cases hy
  | one op a _ =>
    rcases ho.1 with rfl | rfl
    · exact ⟨_,_,33,[],rfl,rfl,.inl (by decide)⟩
    · exact ⟨_,_,45,[],rfl,rfl,.inl (by decide)⟩
  | two op a b iha _ =>
    rw [raws_two]
    by_cases hs:a.strong<strongOp op
    · rw [show atR (strongOp op) a=parR (rawsE a) from if_pos hs]
      exact ⟨_,_,40,[],rfl,rfl,.inl (by decide)⟩
    · rw [show atR (strongOp op) a=rawsE a from if_neg hs]
      obtain ⟨r,rs,c,s,h1,h2,h3⟩:=iha ho.2.2.1 hy.1
      exact ⟨r,_,c,s,by rw [h1];rfl,h2,h3⟩
theorem mode_at {kind m:Nat} (hf:((modesL kind).find? fun x=>decide (modeTxt x=modeTxt m))=some m) (h:At ts k (wd (modeTxt m) :: rs)):modeF ts kind k = .ok m (k+1):=h.word (f:=fun s=>(modesL kind).find? fun x=>decide (modeTxt x=s)) hf
theorem dec_reg_ne {i:Nat} {w:List UInt8} (h:w.head? ≠ some 114):114 :: dec i≠w:=by
  rintro rfl;exact h rfl
theorem regs_at {i:Nat} (hi:i<8) (h:At ts k (wd (114 :: dec i) :: sg [61] :: rs)):flatF ts k=gotF ts i (k+2):=by
  have h1:=h.wd.1
  unfold flatF
  rw [h1,if_neg (dec_reg_ne (by decide)),if_neg (dec_reg_ne (by decide)),h.reg hi]
  show (signF ts [61] (k+1)).bind _=_
  rw [h.tail.sign];rfl
theorem bind_of {α β:Type} {o:Out α} {a:α} {k:Nat} {f:α->Nat->Out β} {r:Out β} (h:o = .ok a k) (h2:f a k=r):o.bind f=r:=by rw [h];exact h2
theorem map_of {α β:Type} {o:Out α} {a:α} {k:Nat} {f:α->β} (h:o = .ok a k):o.map f = .ok (f a) k:=by rw [h];rfl
theorem tail_at {kind m:Nat} {mk:Mk} (hf:((modesL kind).find? fun x=>decide (modeTxt x=modeTxt m))=some m) (h:At ts k (wd (modeTxt m) :: sg [41] :: sg [59] :: rs)) :
    ((modeF ts kind k).bind fun m k=>(signF ts [41] k).bind fun _ k=>(signF ts [59] k).map fun _=>({ mk with mode:=m }:Mk)) = .ok { mk with mode:=m } (k+3) :=
  bind_of (mode_at hf h) (bind_of h.tail.sign (map_of h.tail.tail.sign))
theorem find_mode {kind m:Nat} (h:(kind=2/\(m=1 \/ m=2 \/ m=3)) \/ (kind=3/\(m=1 \/ m=2 \/ m=4)) \/ ((kind=4 \/ kind=5 \/ kind=6)/\(m=2 \/ m=3 \/ m=4 \/ m=5)) \/ (kind=7/\(m=3 \/ m=4 \/ m=5 \/ m=6))) :
    ((modesL kind).find? fun x=>decide (modeTxt x=modeTxt m))=some m:=by
  rcases h with ⟨rfl,rfl | rfl | rfl⟩ | ⟨rfl,rfl | rfl | rfl⟩ | ⟨rfl | rfl | rfl,rfl | rfl | rfl | rfl⟩ | ⟨rfl,rfl | rfl | rfl | rfl⟩ <;> decide
theorem flat_at {m:Mk} (hp:m.proper) (hl:Plain m) (h7:m.kind<=7) (h:At ts k (headR m ++ rs)):flatF ts k = .ok m (k+(headR m).length):=by
  obtain ⟨kind,reg,mode,loc,a,b⟩:=m
  obtain ⟨ha,hb,hp⟩:=hp
  obtain ⟨ya,yb,hr,hg⟩:=hl
  simp only at ha hb hp ya yb hr hg h7
  have exA:∀ (hi:a.isSome=true) {k:Nat} {rs:List Raw} {β:Type} {f:Option Ex->Nat->Out β},At ts k (exR a ++ sg [44] :: rs)->((exprF ts false k).bind fun a k=>(signF ts [44] k).map fun _=>some a).bind f=f a (k+(exR a).length+1):=fun hi k rs β f h=>by
    rw [exO_at ha hi ya (by decide) (by decide) h,ok_bind,h.right.sign]
    show f (some (a.get hi)) _=_
    rw [get_some]
  have exB:∀ (hi:b.isSome=true) {k:Nat} {rs:List Raw} {β:Type} {f:Option Ex->Nat->Out β},At ts k (exR b ++ sg [44] :: rs)->((exprF ts false k).bind fun a k=>(signF ts [44] k).map fun _=>some a).bind f=f b (k+(exR b).length+1):=fun hi k rs β f h=>by
    rw [exO_at hb hi yb (by decide) (by decide) h,ok_bind,h.right.sign]
    show f (some (b.get hi)) _=_
    rw [get_some]
  have lo:isLetter loc->∀ {k:Nat} {rs:List Raw} {β:Type} {f:Nat->Nat->Out β},At ts k (wd [loc.toUInt8] :: sg [44] :: rs)->((locF ts k).bind fun x k=>(signF ts [44] k).map fun _=>x).bind f=f loc (k+2):=fun hx k rs β f h=>by
    rw [h.loc hx hr,ok_bind,h.tail.sign];rfl
  match kind,hp with
  | 1,hp =>
    simp only [headR,List.cons_append,List.append_assoc,List.nil_append] at h
    obtain ⟨rfl,rfl,hi,rfl⟩:=hp
    rw [regs_at hg h]
    have he:=h.tail.tail
    obtain ⟨e,rfl⟩:=Option.isSome_iff_exists.1 hi
    obtain ⟨r,rr,c,s,h1,h2,h3⟩:=first_text ha.1 ya
    have hw:ltrs ts (k+2)=c :: s:=by
      have:At ts (k+2) (r :: (rr ++ sg [59] :: rs)):=by
        have he:At ts (k+2) (rawsE e ++ sg [59] :: rs):=he
        rw [h1] at he;exact he
      rw [<- h2];exact congrArg Raw.text this.head
    have hne:∀ (x:UInt8) (w:List UInt8),isL x=true->x≠114->c :: s≠x :: w:=fun x w hx hx2 e=>by
      injection e with e _
      subst e
      rcases h3 with h3 | h3
      · rw [hx] at h3;cases h3
      · exact hx2 h3
    unfold gotF
    rw [hw,if_neg (show c :: s≠wLoad from hne 108 _ (by decide) (by decide)),if_neg (show c :: s≠wSwap from hne 115 _ (by decide) (by decide)),if_neg (show c :: s≠wAdd from hne 97 _ (by decide) (by decide)),if_neg (show c :: s≠wCas from hne 99 _ (by decide) (by decide))]
    rw [exO_at (a:=some e) ha hi ya (s:=[59]) (by decide) (by decide) he,ok_bind,he.right.sign]
    simp only [headR,List.length_cons,List.length_append,List.length_nil]
    show Out.ok _ _=_
    congr 1;simp only [exR];omega
  | 2,hp =>
    simp only [headR,List.cons_append,List.nil_append] at h
    obtain ⟨hm,hx,rfl,rfl⟩:=hp
    rw [regs_at hg h]
    have he:=h.tail.tail
    unfold gotF
    rw [he.wd.1,if_pos rfl]
    unfold callF
    rw [he.tail.sign,ok_bind,if_neg (by decide),lo hx he.tail.tail,if_pos (by decide),ok_bind,if_neg (by decide),ok_bind]
    exact tail_at (mk:=⟨2,reg,mode,loc,none,none⟩) (find_mode (.inl ⟨rfl,hm⟩)) he.tail.tail.tail.tail
  | 3,hp =>
    simp only [headR,List.cons_append,List.append_assoc,List.nil_append] at h
    obtain ⟨hm,hx,rfl,hi,rfl⟩:=hp
    unfold flatF
    rw [h.wd.1,if_pos rfl]
    unfold callF
    rw [h.tail.sign,ok_bind,if_neg (by decide),lo hx h.tail.tail,if_neg (by decide),exA hi h.tail.tail.tail.tail,if_neg (by decide),ok_bind]
    have:=tail_at (mk:=⟨3,0,mode,loc,a,none⟩) (find_mode (.inr (.inl ⟨rfl,hm⟩))) h.tail.tail.tail.tail.right.tail
    simp only [headR,List.length_cons,List.length_append,List.length_nil]
    refine Eq.trans this ?_
    congr 1;omega
  | 4,hp =>
    simp only [headR,List.cons_append,List.append_assoc,List.nil_append] at h
    obtain ⟨hm,hx,hi,rfl⟩:=hp
    rw [regs_at hg h]
    have he:=h.tail.tail
    unfold gotF
    rw [he.wd.1,if_neg (by decide),if_pos rfl]
    unfold callF
    rw [he.tail.sign,ok_bind,if_neg (by decide),lo hx he.tail.tail,if_neg (by decide),exA hi he.tail.tail.tail.tail,if_neg (by decide),ok_bind]
    have:=tail_at (mk:=⟨4,reg,mode,loc,a,none⟩) (find_mode (.inr (.inr (.inl ⟨.inl rfl,hm⟩)))) he.tail.tail.tail.tail.right.tail
    simp only [headR,List.length_cons,List.length_append,List.length_nil]
    refine Eq.trans this ?_
    congr 1;omega
  | 5,hp =>
    simp only [headR,List.cons_append,List.append_assoc,List.nil_append] at h
    obtain ⟨hm,hx,hi,rfl⟩:=hp
    rw [regs_at hg h]
    have he:=h.tail.tail
    unfold gotF
    rw [he.wd.1,if_neg (by decide),if_neg (by decide),if_pos rfl]
    unfold callF
    rw [he.tail.sign,ok_bind,if_neg (by decide),lo hx he.tail.tail,if_neg (by decide),exA hi he.tail.tail.tail.tail,if_neg (by decide),ok_bind]
    have:=tail_at (mk:=⟨5,reg,mode,loc,a,none⟩) (find_mode (.inr (.inr (.inl ⟨.inr (.inl rfl),hm⟩)))) he.tail.tail.tail.tail.right.tail
    simp only [headR,List.length_cons,List.length_append,List.length_nil]
    refine Eq.trans this ?_
    congr 1;omega
  | 6,hp =>
    simp only [headR,List.cons_append,List.append_assoc,List.nil_append] at h
    obtain ⟨hm,hx,hi,hj⟩:=hp
    rw [regs_at hg h]
    have he:=h.tail.tail
    unfold gotF
    rw [he.wd.1,if_neg (by decide),if_neg (by decide),if_neg (by decide),if_pos rfl]
    unfold callF
    rw [he.tail.sign,ok_bind,if_neg (by decide),lo hx he.tail.tail,if_neg (by decide),exA hi he.tail.tail.tail.tail,if_pos (by decide),exB hj he.tail.tail.tail.tail.right.tail]
    have:=tail_at (mk:=⟨6,reg,mode,loc,a,b⟩) (find_mode (.inr (.inr (.inl ⟨.inr (.inr rfl),hm⟩)))) he.tail.tail.tail.tail.right.tail.right.tail
    simp only [headR,List.length_cons,List.length_append,List.length_nil]
    refine Eq.trans this ?_
    congr 1;omega
  | 7,hp =>
    simp only [headR,List.cons_append,List.nil_append] at h
    obtain ⟨hm,rfl,rfl,rfl,rfl⟩:=hp
    unfold flatF
    rw [h.wd.1,if_neg (by decide),if_pos rfl]
    unfold callF
    rw [h.tail.sign,ok_bind,if_pos (by decide),ok_bind,if_pos (by decide),ok_bind,if_neg (by decide),ok_bind]
    exact tail_at (mk:=⟨7,0,mode,0,none,none⟩) (find_mode (.inr (.inr (.inr ⟨rfl,hm⟩)))) h.tail.tail
  | 0,hp=>exact hp.elim
  | n+8,hp=>omega
theorem cond_at {a:Option Ex} (ha:okO a) (hi:a.isSome=true) (ya:leafyO false a) (h:At ts k (sg [40] :: (exR a ++ sg [41] :: rs))):condF ts k = .ok (a.get hi) (k+(exR a).length+2):=by
  unfold condF
  rw [h.sign,ok_bind,exO_at ha hi ya (by decide) (by decide) h.tail,ok_bind,h.tail.right.sign]
  show Out.ok _ _=_
  congr 1;omega
def plainB:Blk->Prop
  | .nil=>True
  | .cons m t e r=>Plain m/\plainB t/\plainB e/\plainB r
theorem head_word {m:Mk} (hp:m.proper) (h:At ts k (headR m ++ rs)):(ltrs ts k ≠ [125]/\ltrs ts k≠wElse)/\(m.kind<=7->ltrs ts k≠wIf/\ltrs ts k≠wWhile)/\(m.kind=8->ltrs ts k=wIf)/\(m.kind=9->ltrs ts k=wWhile):=by
  obtain ⟨kind,reg,mode,loc,a,b⟩:=m
  obtain ⟨_,_,hp⟩:=hp
  simp only at hp ⊢
  match kind,hp with
  | 1,_ | 2,_ | 4,_ | 5,_ | 6,_ =>
    simp only [headR,List.cons_append] at h
    rw [h.wd.1]
    exact ⟨⟨dec_reg_ne (by decide),dec_reg_ne (by decide)⟩,fun _=>⟨dec_reg_ne (by decide),dec_reg_ne (by decide)⟩,fun e=>by omega,fun e=>by omega⟩
  | 3,_ =>
    simp only [headR,List.cons_append] at h
    rw [h.wd.1]
    exact ⟨⟨by decide,by decide⟩,fun _=>⟨by decide,by decide⟩,fun e=>by omega,fun e=>by omega⟩
  | 7,_ =>
    simp only [headR,List.cons_append] at h
    rw [h.wd.1]
    exact ⟨⟨by decide,by decide⟩,fun _=>⟨by decide,by decide⟩,fun e=>by omega,fun e=>by omega⟩
  | 8,_ =>
    simp only [headR,List.cons_append] at h
    rw [h.wd.1]
    exact ⟨⟨by decide,by decide⟩,fun e=>by omega,fun _=>rfl,fun e=>by omega⟩
  | 9,_ =>
    simp only [headR,List.cons_append] at h
    rw [h.wd.1]
    exact ⟨⟨by decide,by decide⟩,fun e=>by omega,fun e=>by omega,fun _=>rfl⟩
  | 0,hp=>exact hp.elim
  | n+10,hp=>exact hp.elim
theorem bx_more (b:Blk):∀ (d k:Nat) (q:Blk) (rs:List Raw),b.proper->plainB b->d+b.deep<=9->At ts k (rawsB b ++ sg [125] :: rs)->Bx ts (.more d q) k (.ok (q.app b) (k+(rawsB b).length+1)):=by
  induction b with
  | nil =>
    intro d k q rs _ _ _ h
    rw [Blk.app_nil]
    exact .close h.sg.1
  | cons m t e r iht ihe ihr =>
    intro d k q rs hp hy hd h
    obtain ⟨hm,hpt,hpe,hpr,hne,hnt⟩:=hp
    obtain ⟨ym,yt,ye,yr⟩:=hy
    simp only [Blk.deep] at hd
    have hkk:=proper_kind hm
    have hw:=head_word hm (rs:=((if m.kind=8 then rawsB t ++ ((if e.len=0 then [] else sg [125] :: wd wElse :: sg [123] :: rawsB e) ++ [sg [125]]) else if m.kind=9 then rawsB t ++ [sg [125]] else []) ++ rawsB r) ++ sg [125] :: rs) (k:=k) (ts:=ts) (by simpa only [rawsB,List.append_assoc] using h)
    have go:∀ j,Bx ts (.stmt d) k (.ok (.cons m t e .nil) j)->At ts j (rawsB r ++ sg [125] :: rs)->k+(rawsB (.cons m t e r)).length=j+(rawsB r).length->Bx ts (.more d q) k (.ok (q.app (.cons m t e r)) (k+(rawsB (.cons m t e r)).length+1)):=by
      intro j hs hr he
      have h2:=ihr d j (q.snoc m t e) rs hpr yr (by omega) hr
      rw [Blk.snoc_app] at h2
      rw [he]
      exact .step hw.1.1 hs h2
    have hdr:=r.deep_pos
    have hdt:=t.deep_pos
    have hde:=e.deep_pos
    have elseNe:∀ j,At ts j (rawsB r ++ sg [125] :: rs)->ltrs ts j≠wElse:=fun j hr=>by
      cases r with
      | nil=>rw [hr.sg.1];decide
      | cons m2 t2 e2 r2=>exact (head_word hpr.1 (rs:=((if m2.kind=8 then rawsB t2 ++ ((if e2.len=0 then [] else sg [125] :: wd wElse :: sg [123] :: rawsB e2) ++ [sg [125]]) else if m2.kind=9 then rawsB t2 ++ [sg [125]] else []) ++ rawsB r2) ++ sg [125] :: rs) (ts:=ts) (by simpa only [rawsB,List.append_assoc] using hr)).1.2
    by_cases h8:m.kind=8
    · rw [if_pos h8] at hd
      simp only [rawsB,if_pos h8,List.append_assoc] at h
      obtain ⟨kind,reg,mode,loc,a,b⟩:=m
      obtain ⟨ha,hb,hm⟩:=hm
      simp only at h8
      subst h8
      obtain ⟨rfl,rfl,rfl,hi,rfl⟩:=hm
      simp only [headR,List.cons_append,List.append_assoc,List.nil_append] at h
      have hc:=cond_at ha hi ym.a h.tail
      have hb0:=h.tail.tail.right.tail
      have e1:k+1+1+(exR a).length+1=k+1+(exR a).length+2:=by omega
      rw [e1] at hb0
      have hif:ltrs ts k=wIf:=hw.2.2.1 rfl
      have hes:=get_some hi
      by_cases h0:e.len=0
      · obtain rfl:=Blk.len_zero h0
        simp only [if_pos h0,List.nil_append] at hb0
        have hblk:=Bx.block hb0.sg.1 (by omega:d+1<=8) (iht (d+1) _ .nil _ hpt yt (by omega) hb0.tail)
        have hr:=hb0.tail.right.tail
        rw [show Blk.app .nil t=t from rfl] at hblk
        have hx:=Bx.cond hif hc hblk (elseNe _ hr)
        rw [hes] at hx
        exact go _ hx hr (by simp only [rawsB,headR,if_true,List.length_append,List.length_cons,List.length_nil,if_pos h0];omega)
      · simp only [if_neg h0,List.cons_append] at hb0
        have hblk:=Bx.block hb0.sg.1 (by omega:d+1<=8) (iht (d+1) _ .nil _ hpt yt (by omega) hb0.tail)
        have h2:=hb0.tail.right.tail
        rw [show Blk.app .nil t=t from rfl] at hblk
        have hblk2:=Bx.block h2.tail.sg.1 (by omega:d+1<=8) (ihe (d+1) _ .nil _ hpe ye (by omega) h2.tail.tail)
        rw [show Blk.app .nil e=e from rfl] at hblk2
        have hr:=h2.tail.tail.right.tail
        have hx:=Bx.other hif hc hblk h2.wd.1 hblk2
        rw [hes] at hx
        exact go _ hx hr (by simp only [rawsB,headR,if_true,List.length_append,List.length_cons,List.length_nil,if_neg h0];omega)
    · rw [if_neg h8] at hd
      obtain rfl:=hne h8
      by_cases h9:m.kind=9
      · rw [if_pos h9] at hd
        simp only [rawsB,if_neg h8,if_pos h9,List.append_assoc] at h
        obtain ⟨kind,reg,mode,loc,a,b⟩:=m
        obtain ⟨ha,hb,hm⟩:=hm
        simp only at h9
        subst h9
        obtain ⟨rfl,rfl,rfl,hi,rfl⟩:=hm
        simp only [headR,List.cons_append,List.append_assoc,List.nil_append] at h
        have hc:=cond_at ha hi ym.a h.tail
        have hb0:=h.tail.tail.right.tail
        have e1:k+1+1+(exR a).length+1=k+1+(exR a).length+2:=by omega
        rw [e1] at hb0
        have hblk:=Bx.block hb0.sg.1 (by omega:d+1<=8) (iht (d+1) _ .nil _ hpt yt (by omega) hb0.tail)
        have hr:=hb0.tail.right.tail
        rw [show Blk.app .nil t=t from rfl] at hblk
        have hx:=Bx.loop (hw.2.2.2 rfl) hc hblk
        rw [get_some hi] at hx
        exact go _ hx hr (by simp only [rawsB,headR,if_neg h8,if_true,List.length_append,List.length_cons,List.length_nil];omega)
      · obtain rfl:=hnt h8 h9
        simp only [rawsB,if_neg h8,if_neg h9,List.append_assoc,List.nil_append] at h
        have hf:=flat_at hm ym (by omega) h
        have h7:=hw.2.1 (by omega)
        have hx:=Bx.flat (d:=d) h7.1 h7.2
        rw [hf] at hx
        exact go _ hx h.right (by simp only [rawsB,if_neg h8,if_neg h9,List.length_append,List.length_nil];omega)
theorem init_at {x:Nat × Nat} (h:isLetter x.1) (hr:x.1≠114) (ha:At ts k (initR x ++ rs)):ltrs ts k=wInit/\initF ts (k+1) = .ok x (k+5):=by
  simp only [initR,List.cons_append,List.nil_append] at ha
  refine ⟨ha.wd.1,?_⟩
  unfold initF
  obtain ⟨_,h1,h2⟩:=ha.tail.tail.tail.nm
  rw [ha.tail.loc h hr,ok_bind,ha.tail.tail.sign,ok_bind,if_pos h1,ok_bind,ha.tail.tail.tail.tail.sign,h2]
  rfl
structure Prints (t:Ts):Prop where
  proper:t.proper
  init:∀ i ∈ t.init,i.1≠114/\i.2<18446744073709551616
  threads:∀ b ∈ t.threads,plainB b
  few:t.threads.length<=4
  ask:leafyO true t.ask
theorem ask_at {l:List (Nat × Nat)} {q:List Blk} {all:Bool} {a:Option Ex} (ha:okO a) (hi:a.isSome=true) (hy:leafyO true a) (h:At ts k (wd (if all then wForall else wExists) :: (exR a ++ sg [59] :: rawEnd :: rs))):∃ k',askF ts l q k = .ok ⟨l,q,all,a⟩ k':=by
  have h1:=h.wd
  have h2:=exO_at ha hi hy (by decide) (by decide) h.tail
  have h3:=h.tail.right.sign
  have h4:kindAt ts (k+1+(exR a).length+1)=0:=congrArg Raw.kind h.tail.right.tail.head
  unfold askF
  rw [if_pos h1.2,h1.1]
  cases all with
  | true =>
    rw [if_pos (.inr rfl),h2,ok_bind,h3,ok_bind,if_pos h4,get_some]
    exact ⟨_,rfl⟩
  | false =>
    rw [if_pos (.inl rfl),h2,ok_bind,h3,ok_bind,if_pos h4,get_some]
    exact ⟨_,rfl⟩
theorem tx_threads_at {l:List (Nat × Nat)} {all:Bool} {a:Option Ex} (ha:okO a) (hi:a.isSome=true) (hy:leafyO true a):∀ (q p:List Blk) (k:Nat),(∀ b ∈ q,(b.proper/\b.deep<=8)/\plainB b)->p.length+q.length<=4 ->
    At ts k (q.flatMap threadR ++ (wd (if all then wForall else wExists) :: (exR a ++ [sg [59],rawEnd])))->∃ k',Tx ts (.threads l p) k (.ok ⟨l,p ++ q,all,a⟩ k'):=by
  intro q
  induction q with
  | nil =>
    intro p k _ _ h
    obtain ⟨k',hk⟩:=ask_at (l:=l) (q:=p) ha hi hy (rs:=[]) h
    have hne:ltrs ts k≠wThread:=by
      rw [At.wd (rs:=exR a ++ [sg [59],rawEnd]) (s:=if all then wForall else wExists) h |>.1]
      cases all <;> decide
    rw [List.append_nil]
    have:=Tx.ask (l:=l) (q:=p) hne
    rw [hk] at this
    exact ⟨k',this⟩
  | cons b q ih =>
    intro p k hb hn h
    simp only [List.flatMap_cons,threadR,List.cons_append,List.append_assoc,List.nil_append] at h
    simp only [List.length_cons] at hn
    obtain ⟨⟨b1,b2⟩,b3⟩:=hb b (by simp)
    have hblk:=Bx.block h.tail.sg.1 (by omega:1<=8) (bx_more b 1 _ .nil _ b1 b3 (by omega) h.tail.tail)
    rw [show Blk.app .nil b=b from rfl] at hblk
    obtain ⟨k',hk⟩:=ih (p ++ [b]) _ (fun c hc=>hb c (by simp [hc])) (by simp;omega) h.tail.tail.right.tail
    rw [List.append_assoc] at hk
    exact ⟨k',.thread h.wd.1 (by omega) hblk hk⟩
theorem tx_inits_at {t:Ts} (H:Prints t):∀ (q p:List (Nat × Nat)) (k:Nat),p ++ q=t.init->(∀ i ∈ q,isLetter i.1/\i.1≠114) ->
    At ts k (q.flatMap initR ++ (t.threads.flatMap threadR ++ (wd (if t.all then wForall else wExists) :: (exR t.ask ++ [sg [59],rawEnd]))))->∃ k',Tx ts (.inits p) k (.ok t k'):=by
  intro q
  induction q with
  | nil =>
    intro p k e _ h
    rw [List.append_nil] at e
    subst e
    rw [List.flatMap_nil,List.nil_append] at h
    obtain ⟨k',hk⟩:=tx_threads_at (l:=t.init) H.proper.ask H.proper.some H.ask t.threads [] k (fun b hb=>⟨H.proper.threads b hb,H.threads b hb⟩) (by simpa using H.few) h
    refine ⟨k',.inited ?_ hk⟩
    cases ht:t.threads with
    | nil =>
      rw [ht,List.flatMap_nil,List.nil_append] at h
      rw [h.wd.1]
      cases t.all <;> decide
    | cons b q =>
      rw [ht] at h
      simp only [List.flatMap_cons,threadR,List.cons_append] at h
      rw [h.wd.1];decide
  | cons x q ih =>
    intro p k e hq h
    rw [List.flatMap_cons,List.append_assoc] at h
    have hx:=hq x (by simp)
    obtain ⟨h1,h2⟩:=init_at hx.1 hx.2 h
    obtain ⟨k',hk⟩:=ih (p ++ [x]) (k+5) (by rw [List.append_assoc];exact e) (fun i hi=>hq i (by simp [hi])) h.right
    exact ⟨k',.init h1 h2 hk⟩
end
theorem at_raws {ts:List Lex.Tok} {rs:List Raw} (h:ts.map raw=rs):At ts 0 rs:=by
  intro i r hr
  rw [<- h,List.getElem?_map] at hr
  rw [Nat.zero_add]
  cases hx:ts[i]? with
  | none=>rw [hx] at hr;cases hr
  | some t =>
    rw [hx] at hr
    injection hr with hr
    unfold tk
    rw [List.getD_eq_getElem?_getD,hx]
    exact hr
end Go.Proofs.YtagebkachdmnbaaGreatDoor.Prs
end
