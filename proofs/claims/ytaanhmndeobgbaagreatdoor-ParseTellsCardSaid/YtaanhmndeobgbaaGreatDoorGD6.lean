/- Part 37 of the proof: what is used of the texts PtlT. -/
import Derived.Test.YtaanhmndeobgbaaGreatDoorGD5
namespace Go.Proofs.YtaanhmndeobgbaaGreatDoor.fT
open Go.RowKit Mem Go.Proofs.YtaanhmndeobgbaaGreatDoor.Expr Prog Go.Lib ae
open Go.Proofs.YtaanhmndeobgbaaGreatDoor.Row (Lay cellsOf bO dQ mU eX cz eY dM ax ed aO iU)
open Lex (Tok cO jA iO)
open Classical in
noncomputable def kW (ts:List Lex.Tok) (d k:Nat):Out az:=if h:∃ out,Bx ts (.block d) k out then h.choose else .bad k 0
theorem lY {ts:List Lex.Tok} {d k:Nat} {out:Out az} (h:Bx ts (.block d) k out):kW ts d k=out:=by
 have hx:∃ out,Bx ts (.block d) k out:=⟨out,h⟩
 unfold kW;rw [dif_pos hx,hx.choose_spec.CG h]
theorem uE {α:Type} {v:Value} {ts:List Lex.Tok} {o:Out α} {u:Value} (hG:gM ts) {k0 q0:Nat} (IB:∀ gp op c,v = .slice (some ⟨gp,op,none⟩) ts.length c->∀ k',k0<k' -> FN ts gp op c k') (d:Nat) (hd:d<=9) (w:World) (hP:dK w v ts) (hR:aP v ts.length o u) (hq:∀ a q,o = .ok a q->k0<q/\q0<=q) :
  Calls Tryz.prog 18 #[u,.int .i64 (d:Nat)] w (dP v ts.length (ts.length+3 - q0) (o.bind fun _ k=>kW ts d k) w):=by
 obtain ⟨gp,op,c,rfl,_,_⟩:=hP.at_;cases o with
 | ok a k =>
  obtain ⟨rfl,hk⟩:=hR;obtain ⟨h1,h2⟩:=hq a k rfl;obtain ⟨out,hx,_⟩:=(mM hG.good _ k (Nat.le_refl _) hk d).1;show Calls _ _ _ _ (dP _ _ _ (kW ts d k) w)
  rw [lY hx];refine (IB gp op c rfl k h1 d out w hd hx hP hk).mono ?_;rintro e w' ⟨lv,l,u,g1,g2,g3,g4,g5,g6⟩;exact ⟨lv,l,u,g1,g2,g3,g4,by omega,g6⟩
 | bad j e =>
  obtain ⟨k,rfl,he,hj,hk⟩:=hR;exact BX hG gp op c k j e _ d w hP he hj hk
noncomputable def oW (ts:List Lex.Tok) (d k:Nat):Out (Ex × az):=(iA ts (k+1)).bind fun a q=>(kW ts (d+1) q).map fun t=>(a,t)
theorem Ca {ts:List Lex.Tok} {d k:Nat} {out:Out az} (h:Bx ts (.stmt d) k out) (hw:aj ts k=uj \/ aj ts k=eB) :
  (∃ j er,oW ts d k = .bad j er/\out = .bad j er) \/ ∃ a t k2,oW ts d k = .ok (a,t) k2/\((aj ts k=eB/\out = .ok (.cons ⟨9,0,0,0,some a,none⟩ t .nil .nil) k2) \/ (aj ts k=uj/\aj ts k2≠jd/\out = .ok (.cons ⟨8,0,0,0,some a,none⟩ t .nil .nil) k2) \/
   (aj ts k=uj/\aj ts k2=jd/\out=(kW ts (d+1) (k2+1)).map fun e => .cons ⟨8,0,0,0,some a,none⟩ t e .nil)):=by
 unfold oW;cases h with
 | flat h1 h2=>rcases hw with h | h <;> contradiction
 | gJ _ h2=>rw [h2];exact .inl ⟨_,_,rfl,rfl⟩
 | gK _ h2 h3=>rw [h2,aN,lY h3];exact .inl ⟨_,_,rfl,rfl⟩
 | loop h1 h2 h3=>rw [h2,aN,lY h3];exact .inr ⟨_,_,_,rfl,.inl ⟨h1,rfl⟩⟩
 | cond h1 h2 h3 h4=>rw [h2,aN,lY h3];exact .inr ⟨_,_,_,rfl,.inr (.inl ⟨h1,h4,rfl⟩)⟩
 | other h1 h2 h3 h4 h5=>rw [h2,aN,lY h3];exact .inr ⟨_,_,_,rfl,.inr (.inr ⟨h1,h4,by rw [lY h5]⟩)⟩
def fQ:Array Value:=#[.int .u8 0,.int .u8 0,.int .u8 0,.int .u8 0,.slice none 0 0,.slice none 0 0]
theorem qA {P:Program} {t e:TypeId} {size bytes:Nat} (T:mU P t e size bytes) {o:Oper} {a:Act} {Y:Value->World->Prop} {Z:List PanicEntry->World->Prop} (s x:Operand)
  (ho:o.op = .call { callee:=.builtin .append,args:=#[s,x],argTypes:=#[t,t] }) {B:Nat} {w:World} {r:Option Addr} {n d:Nat} {xs:List Value} (hs:a.eval s = .slice r n d) (h:cz e size B w r n d xs) (hB:B<=w.heap.size)
  (q:Option Addr) (m c:Nat) (ys:List Value) (hx:a.eval x = .slice q m c) (hy:ys.length=m * size) (hq:Lay w q ys) (h1:∀ u ∈ ys,u.oneCell' = true) (h63:n+m<=maxLen) (hb:(n+m) * bytes<=140737488355328)
  (hk:∀ r' d' w',w.grownBy w' (Value.slice r n d).ownBlock->(∀ g o s,r' = some ⟨g,o,s⟩->(Value.slice r n d).ownBlock=some g \/ w.heap.size<=g)->cz e size B w' r' (n+m) d' (xs ++ ys)->Y (.slice r' (n+m) d') w'):ae.dW P Y Z ((execOp a.eval o).run P w):=by
 obtain ⟨r',d',w',hr,⟨hg,hf⟩,hbl,hc⟩:=ed T o.type h hB q m c ys hy hq h1 h63 hb;unfold execOp;simp only [ho,resolve,invoke,builtin,Sem.run_bind,Sem.run_pure,Result.andThen_ok,List.map_toArray,List.map_cons,List.map_nil,hs,hx,hr]
 exact hk _ _ _ hg hf hc
structure qj (w1:World) (r:Option Addr) (n dc Bq:Nat) (cs:List Value) (u4:Value) (d:Nat->Bool) (xs:Nat->Value) (W:World):Prop where
 kp:aa (fun g=>(Value.slice r n dc).ownBlock=some g) w1 W
 x0:d 0=true->xs 0 = .slice r n dc
 x1:d 1=true->xs 1 = .agg fQ
 x2:d 2=true->d 3=false->∃ g,xs 2 = .slice (some ⟨g,0,none⟩) 1 1/\Sits W g 132 fQ
 cut:d 3=false->cz 132 6 Bq W r n dc cs
 x3:d 3=true->∃ r' d',xs 3 = .slice r' (n+1) d' /\ cz 132 6 Bq W r' (n+1) d' (cs ++ fQ.toList)
 x4:d 4=true->xs 4=u4
 x5:d 5=true->d 3=true/\xs 5=xs 3
section
variable {w1 : World} {r : Option Addr} {n dc Bq : Nat} {cs : List Value} {u4 : Value} {d : Nat → Bool} {xs : Nat → Value} {W W' : World}
theorem qj.grow (h:qj w1 r n dc Bq cs u4 d xs W) (hb:Below W.heap.size W W'):qj w1 r n dc Bq cs u4 d xs W' :=
 ⟨h.kp.trans (aa.of_below hb),h.x0,h.x1,fun h1 h2=>(h.x2 h1 h2).imp fun _ ⟨e,hc⟩=>⟨e,hc.below hb hc.lt⟩,fun h1=>(h.cut h1).below hb,fun h1=>(h.x3 h1).imp fun _ ⟨d',e,hc⟩=>⟨d',e,hc.below hb⟩,h.x4,h.x5⟩
theorem qj.set (h:qj w1 r n dc Bq cs u4 d xs W) (i:Nat) (u:Value) (h3:i≠3) (u0:i=0->u = .slice r n dc) (u1:i=1->u = .agg fQ) (u2:i=2->d 3=false->∃ g,u = .slice (some ⟨g,0,none⟩) 1 1/\Sits W g 132 fQ) (u4':i=4->u=u4) (u5:i=5->d 3=true/\u=xs 3) :
  qj w1 r n dc Bq cs u4 (ae.bU d i) (ae.dE xs i u) W:=by
 have e3:ae.bU d i 3=d 3:=by simp [ae.bU,Ne.symm h3]
 have y3:ae.dE xs i u 3=xs 3:=by simp [ae.dE,Ne.symm h3]
 have key:∀ j,ae.bU d i j=true->(j=i/\ae.dE xs i u j=u) \/ (d j=true/\ae.dE xs i u j=xs j):=fun j hj=>by
  by_cases e:j=i
  ·exact .inl ⟨e,by simp [ae.dE,e]⟩
  ·exact .inr ⟨by simpa [ae.bU,e] using hj,by simp [ae.dE,e]⟩
 refine ⟨h.kp,fun hj=>?_,fun hj=>?_,fun hj hd=>?_,fun hj=>?_,fun hj=>?_,fun hj=>?_,fun hj=>?_⟩
 ·rcases key 0 hj with ⟨e,q⟩ | ⟨e,q⟩ <;> rw [q]
  ·exact u0 e.symm
  ·exact h.x0 e
 ·rcases key 1 hj with ⟨e,q⟩ | ⟨e,q⟩ <;> rw [q]
  ·exact u1 e.symm
  ·exact h.x1 e
 ·rw [e3] at hd
  rcases key 2 hj with ⟨e,q⟩ | ⟨e,q⟩ <;> rw [q]
  ·exact u2 e.symm hd
  ·exact h.x2 e hd
 ·exact h.cut (e3 ▸ hj)
 ·rw [y3];exact h.x3 (e3 ▸ hj)
 ·rcases key 4 hj with ⟨e,q⟩ | ⟨e,q⟩ <;> rw [q]
  ·exact u4' e.symm
  ·exact h.x4 e
 ·rw [e3,y3]
  rcases key 5 hj with ⟨e,q⟩ | ⟨e,q⟩ <;> rw [q]
  ·exact u5 e.symm
  ·exact h.x5 e
theorem qj.Xc (h:qj w1 r n dc Bq cs u4 d xs W) (hi:d 3=false) (hg:W.grownBy W' (Value.slice r n dc).ownBlock) {r':Option Addr} {d':Nat} (hc:cz 132 6 Bq W' r' (n+1) d' (cs ++ fQ.toList)) :
  qj w1 r n dc Bq cs u4 (ae.bU d 3) (ae.dE xs 3 (.slice r' (n+1) d')) W':=by
 have e3:ae.bU d 3 3=true:=by simp [ae.bU]
 have key:∀ j,j≠3->ae.bU d 3 j=true->d j=true:=fun j e hj=>by simpa [ae.bU,e] using hj
 refine ⟨h.kp.trans ⟨hg.os,hg.tape,hg.output,hg.size,fun b hb hn=>hg.block b hb (fun e=>hn e.symm)⟩,fun hj=>h.x0 (key 0 (by decide) hj),fun hj=>h.x1 (key 1 (by decide) hj),fun _ hd=>?_,fun hd=>?_,fun _=>⟨r',d',rfl,hc⟩,fun hj=>h.x4 (key 4 (by decide) hj),fun hj=>?_⟩
 ·rw [e3] at hd;cases hd
 ·rw [e3] at hd;cases hd
 ·have:=(h.x5 (key 5 (by decide) hj)).1
  rw [hi] at this;cases this
theorem qj.start (hc:cz 132 6 Bq w1 r n dc cs):qj w1 r n dc Bq cs u4 (fun _=>false) xs w1.drew:=by
 refine ⟨(aa.refl _ _).drew,?_,?_,?_,fun _=>hc.below (Below.refl _ _).drew,?_,?_,?_⟩ <;> exact fun h=>by cases h
theorem qj.OL:ae.Local 6 (qj w1 r n dc Bq cs u4):=by
 intro d d' xs xs' W hd hx h;have e:∀ i,i<6->d' i=d i:=fun i hi=>(hd i hi).symm
 have x:∀ i,i<6->xs' i=xs i:=fun i hi=>(hx i hi).symm
 refine ⟨h.kp,?_,?_,?_,?_,?_,?_,?_⟩
 ·rw [e 0 (by decide),x 0 (by decide)];exact h.x0
 ·rw [e 1 (by decide),x 1 (by decide)];exact h.x1
 ·rw [e 2 (by decide),x 2 (by decide),e 3 (by decide)];exact h.x2
 ·rw [e 3 (by decide)];exact h.cut
 ·rw [e 3 (by decide),x 3 (by decide)];exact h.x3
 ·rw [e 4 (by decide),x 4 (by decide)];exact h.x4
 ·rw [e 5 (by decide),x 5 (by decide),e 3 (by decide),x 3 (by decide)];exact h.x5
end
theorem vW.aside {B:Nat} {w:World} {own:Option Nat} {v:Value} {l:List It} (h:vW (fun g=>B<=g) w v l) (ho:∀ g,own=some g->w.heap.size<=g):vW (fun g=>B<=g/\own≠some g) w v l:=⟨h.1,fun hl g o s n d e=>⟨h.2 hl g o s n d e,fun he=>by
 have hw:=ho g he;obtain ⟨⟨p,c,e1,h1,_⟩,_⟩:=h;rw [e1] at e;injection e with e _ _;cases l with
 | nil=>exact hl rfl
 | cons a l =>
  obtain ⟨g2,o2,e4,e5,_⟩:=h1 0 (.int .u8 a.kind) (by simp [cellsOf,oh]);rw [e4] at e;injection e with e;injection e with e _
  omega⟩⟩
theorem vW.FP {U V:Nat->Prop} {X:Nat->Prop} {w w':World} {v:Value} {l:List It} (h:vW U w v l) (hk:aa X w w') (hU:∀ g,U g->¬ X g) (hV:∀ g,U g->V g):vW V w' v l:=by
 obtain ⟨⟨p,c,rfl,h1,_⟩,h2⟩:=h;have hne:∀ (j:Nat) (u:Value),(cellsOf oh l)[j]? = some u->l ≠ []:=fun j u hu e=>by subst e;exact absurd hu (by simp [cellsOf])
 refine ⟨⟨p,c,rfl,fun j u hu=>?_,fun _ _ _ _=>Nat.zero_le _⟩,fun hl g o s n' d' e=>hV g (h2 hl g o s n' d' e)⟩;obtain ⟨g,o,e1,e2,e3⟩:=h1 j u hu;have hu':=hU g (h2 (hne j u hu) g o none _ _ (by rw [e1]));exact ⟨g,o,e1,Nat.lt_of_lt_of_le e2 hk.size,(World.cell?_of_block (hk.block g e2 hu')).trans e3⟩
end Go.Proofs.YtaanhmndeobgbaaGreatDoor.fT
