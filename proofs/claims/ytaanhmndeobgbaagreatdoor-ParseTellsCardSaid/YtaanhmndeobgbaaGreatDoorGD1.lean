/- Part 32 of the proof: what is used of the texts PrsR. -/
import Derived.Test.YtaanhmndeobgbaaGreatDoorGC9
import Derived.Test.YtaanhmndeobgbaaGreatDoorGC1
import Derived.Test.YtaanhmndeobgbaaGreatDoorGD0
set_option maxRecDepth 100000
set_option maxHeartbeats 4000000
namespace Go.Proofs.YtaanhmndeobgbaaGreatDoor.fT
open Go.RowKit Mem Go.Proofs.YtaanhmndeobgbaaGreatDoor.Expr Prog
open Lex (Tok jA cO iO)
section
variable {gR gp cap : Nat} {ts : List Lex.Tok}
def kU (gS:Nat) (W:World):Nat->Prop:=fun x=>gS<x/\x<W.heap.size
structure Sb (W:World) (gS gR gp:Nat) (m:Mk) (t e:az) (pa pb:Option Addr) (tv ev:Value):Prop where
 box:Sits W gS 119 (aC m pa pb tv ev)
 a:Tree W (kr m.a) (.pointer pa)
 b:Tree W (kr m.b) (.pointer pb)
 t:aR (kU gS W) W t tv
 e:aR (kU gS W) W e ev
 far:gp≠gS
 late:gR<gS
theorem St.sb {W:World} {gS:Nat} {m:Mk} (h:St W gS gR gp m):∃ pa pb,Sb W gS gR gp m .nil .nil pa pb jW jW:=by
 obtain ⟨⟨av,bv,hx,h1,h2⟩,hf,hl⟩:=h;obtain ⟨pa,rfl,_⟩:=h1.ptr;obtain ⟨pb,rfl,_⟩:=h2.ptr;exact ⟨pa,pb,hx,h1,h2,aR.nil _ _,aR.nil _ _,hf,hl⟩
section
variable {W W' : World} {gS : Nat} {m : Mk} {t e : az} {pa pb : Option Addr} {tv ev : Value}
theorem Sb.keepR {k:Nat} (h:Sb W gS gR gp m t e pa pb tv ev) (hr:Rd W gR gp cap ts k) (hk:aa (fun x=>x=gR) W W'):Sb W' gS gR gp m t e pa pb tv ev:=by
 have hs:=hr.stable hk;have hz:∀ g,kU gS W g->∀ j u,W.cell? ⟨g,j,none⟩=some u->W'.cell? ⟨g,j,none⟩=some u:=fun g hg j u hu=>by
  rw [World.cell?_of_block (hk.block g hg.2 (fun e=>by have:=hg.1;have:=h.late;omega))];exact hu
 have hw:∀ g,kU gS W g->kU gS W' g:=fun g hg=>⟨hg.1,Nat.lt_of_lt_of_le hg.2 hk.size⟩
 exact ⟨h.box.keep hk (by have:=h.late;omega),h.a.stable hs,h.b.stable hs,(h.t.keep hs hz).wider hw,(h.e.keep hs hz).wider hw,h.far,h.late⟩
theorem Sb.below (h:Sb W gS gR gp m t e pa pb tv ev) (hb:Below W.heap.size W W'):Sb W' gS gR gp m t e pa pb tv ev:=by
 have hw:∀ g,kU gS W g->kU gS W' g:=fun g hg=>⟨hg.1,Nat.lt_of_lt_of_le hg.2 hb.size⟩
 exact ⟨h.box.below hb h.box.lt,h.a.below hb,h.b.below hb,(h.t.below hb).wider hw,(h.e.below hb).wider hw,h.far,h.late⟩
theorem Sb.put (h:Sb W gS gR gp m t e pa pb tv ev) (i:Nat) (u:Value):Stable 159 W (W.setCell ⟨gS,i,none⟩ u)/\(∀ g,kU gS W g->∀ j u',W.cell? ⟨g,j,none⟩=some u' -> (W.setCell ⟨gS,i,none⟩ u).cell? ⟨g,j,none⟩=some u')/\∀ g,kU gS W g->kU gS (W.setCell ⟨gS,i,none⟩ u) g :=
 ⟨Stable.put h.box (by decide) i u,fun g hg j u' hu=>by rw [World.cell?_of_block (Below.heap_setCell W ⟨gS,i,none⟩ u g (by have:=hg.1;show g≠gS;omega))];exact hu,fun g hg=>⟨hg.1,by rw [jZ];exact hg.2⟩⟩
theorem Sb.Oi (h:Sb W gS gR gp m t e pa pb tv ev) {c:az} {u:Value} (hc:aR (kU gS W) W c u):Sb (W.setCell ⟨gS,6,none⟩ u) gS gR gp m c e pa pb u ev:=by
 obtain ⟨hs,hz,hw⟩:=h.put 6 u;exact ⟨h.box.put 6 u,h.a.stable hs,h.b.stable hs,(hc.keep hs hz).wider hw,(h.e.keep hs hz).wider hw,h.far,h.late⟩
theorem Sb.Um (h:Sb W gS gR gp m t e pa pb tv ev) {c:az} {u:Value} (hc:aR (kU gS W) W c u):Sb (W.setCell ⟨gS,7,none⟩ u) gS gR gp m t c pa pb tv u:=by
 obtain ⟨hs,hz,hw⟩:=h.put 7 u;exact ⟨h.box.put 7 u,h.a.stable hs,h.b.stable hs,(h.t.keep hs hz).wider hw,(hc.keep hs hz).wider hw,h.far,h.late⟩
theorem Sb.at8 (h:Sb W gS gR gp m t e pa pb tv ev):W.cell? ⟨gS,0,none⟩=some (.int .u8 m.kind)/\W.cell? ⟨gS,1,none⟩=some (.int .u8 m.reg)/\W.cell? ⟨gS,2,none⟩=some (.int .u8 m.mode)/\W.cell? ⟨gS,3,none⟩=some (.int .u8 m.loc)/\W.cell? ⟨gS,4,none⟩=some (.pointer pa)/\W.cell? ⟨gS,5,none⟩=some (.pointer pb)/\W.cell? ⟨gS,6,none⟩=some tv/\W.cell? ⟨gS,7,none⟩=some ev/\gS<W.heap.size :=
 ⟨h.box.cell 0,h.box.cell 1,h.box.cell 2,h.box.cell 3,h.box.cell 4,h.box.cell 5,h.box.cell 6,h.box.cell 7,h.box.lt⟩
end
def SB (B:Nat):az->Ending->World->Prop:=fun q e W=>∃ (m:Mk) (t e':az) (pa pb:Option Addr) (tv ev:Value),q = .cons m t e' .nil/\e = .returned (.agg (aC m pa pb tv ev))/\Tree W (kr m.a) (.pointer pa)/\Tree W (kr m.b) (.pointer pb)/\aR (fresh B W) W t tv/\aR (fresh B W) W e' ev
def WQ (B:Nat):az->Ending->World->Prop:=fun q e W=>∃ v,e = .returned v/\aR (fresh B W) W q v
def Ou (gR gp cap:Nat) (ts:List Lex.Tok) (k:Nat):Prop:=∀ (d:Nat) (out:Out az) (w:World),d<=8->Bx ts (.stmt d) k out->Rd w gR gp cap ts k->Calls Tryz.prog 81 #[.pointer (some ⟨gR,0,none⟩),.int .i64 (d:Nat)] w (Done gR gp cap ts (SB w.heap.size) out w)
def DI (gR gp cap:Nat) (ts:List Lex.Tok) (k:Nat):Prop:=∀ (d:Nat) (out:Out az) (w:World),d<=9->Bx ts (.block d) k out->Rd w gR gp cap ts k->Calls Tryz.prog 44 #[.pointer (some ⟨gR,0,none⟩),.int .i64 (d:Nat)] w (Done gR gp cap ts (WQ w.heap.size) out w)
theorem FK {w W W':World} {gS:Nat} (h:aa (fun x=>x=gR) w W) (k:aa (Fj gR gS) W W') (hg:w.heap.size<=gS):aa (fun x=>x=gR) w W' :=
 (((h.wider fun _ _ e => .inl e).trans k:aa (Fj gR gS) w W')).wider fun x hx e=>e.elim id fun e=>by omega
theorem oV {w W:World} {g4 gS k0 k:Nat} {m:Mk} {t e:az} {pa pb:Option Addr} {tv ev:Value} (h0:Rd w gR gp cap ts k0) (hK:aa (fun x=>x=gR) w W) (hR:Rd W gR gp cap ts k) (hS:Sb W gS gR gp m t e pa pb tv ev) (h4:Sits W g4 119 cK) (hg4:w.heap.size<=g4) (h45:g4<gS) (Yc:gp<w.heap.size) :
  Done gR gp cap ts (SB w.heap.size) (.ok (.cons m t e .nil) k) w (.returned (.agg (aC m pa pb tv ev))) (W.setRow g4 (aC m pa pb tv ev)):=by
 have hk:=bK W g4 (aC m pa pb tv ev);have hKK:aa (fun x=>x=gR) w (W.setRow g4 (aC m pa pb tv ev)):=((hK.wider (fun x _ h => .inl h)).trans (hk.wider (fun x _ h => .inr h)):aa (fun x=>x=gR \/ x=g4) w _).wider fun x hx h=>h.elim id (fun h=>by omega)
 have hs:Stable 159 W (W.setRow g4 (aC m pa pb tv ev)):=Stable.keeps hk fun b cs hb e=>(hb.differ h4 (by decide)) e
 have hz:∀ g,kU gS W g->∀ j u,W.cell? ⟨g,j,none⟩=some u->(W.setRow g4 (aC m pa pb tv ev)).cell? ⟨g,j,none⟩=some u:=fun g hg j u hu=>by
  rw [World.cell?_of_block (hk.block g hg.2 (fun e=>by have:=hg.1;omega))];exact hu
 have hw:∀ g,kU gS W g->fresh w.heap.size (W.setRow g4 (aC m pa pb tv ev)) g:=fun g hg=>⟨by have:=hg.1;omega,Nat.lt_of_lt_of_le hg.2 hk.size⟩
 have hl:=hS.late;have hlR:=h0.box.lt;exact ⟨hKK,⟨m,t,e,pa,pb,tv,ev,rfl,rfl,hS.a.stable hs,hS.b.stable hs,(hS.t.keep hs hz).wider hw,(hS.e.keep hs hz).wider hw⟩,hR.setRow h0 hKK (by omega) (by omega)⟩
theorem sJ (hp:gM ts) {k:Nat} {c:UInt8} {r:List UInt8} (h:aj ts k=c :: r) (hc:jA c=true):au ts k=2:=by
 have h3:=hp.low k;have hld:cO c=true:=by unfold Lex.cO;rw [hc];rfl
 have hd:iO c=false:=(Dq hc).2.2;obtain h0 | h1 | h2 | h3:au ts k=0 \/ au ts k=1 \/ au ts k=2 \/ au ts k=3:=by omega
 ·rw [hp.fin k h0] at h;cases h
 ·obtain ⟨c',r',h',hc'⟩:=hp.digit k h1
  rw [h] at h';injection h' with e _;subst e;rw [hd] at hc';cases hc'
 ·exact h2
 ·obtain ⟨c',r',h',hc'⟩:=hp.sign k h3
  rw [h] at h';injection h' with e _;subst e;rw [hld] at hc';cases hc'
theorem JE {d k:Nat} {out:Out az} (h:Bx ts (.stmt d) k out):(aj ts k≠uj/\aj ts k≠eB/\out=(bH ts k).map fun m => .cons m .nil .nil .nil) \/
  ((aj ts k=uj \/ aj ts k=eB)/\∃ j er,iA ts (k+1) = .bad j er/\out = .bad j er) \/
  ((aj ts k=uj \/ aj ts k=eB)/\∃ a k1 j er,iA ts (k+1) = .ok a k1/\Bx ts (.block (d+1)) k1 (.bad j er)/\out = .bad j er) \/
  (aj ts k=eB/\∃ a k1 t k2,iA ts (k+1) = .ok a k1/\Bx ts (.block (d+1)) k1 (.ok t k2)/\out = .ok (.cons ⟨9,0,0,0,some a,none⟩ t .nil .nil) k2) \/
  (aj ts k=uj/\∃ a k1 t k2,iA ts (k+1) = .ok a k1/\Bx ts (.block (d+1)) k1 (.ok t k2)/\aj ts k2≠jd/\out = .ok (.cons ⟨8,0,0,0,some a,none⟩ t .nil .nil) k2) \/
  (aj ts k=uj/\∃ a k1 t k2 o2,iA ts (k+1) = .ok a k1/\Bx ts (.block (d+1)) k1 (.ok t k2)/\aj ts k2=jd/\Bx ts (.block (d+1)) (k2+1) o2/\out=o2.map fun e => .cons ⟨8,0,0,0,some a,none⟩ t e .nil):=by
 cases h with
 | flat h1 h2=>exact .inl ⟨h1,h2,rfl⟩
 | gJ h1 h2=>exact .inr (.inl ⟨h1,_,_,h2,rfl⟩)
 | gK h1 h2 h3=>exact .inr (.inr (.inl ⟨h1,_,_,_,_,h2,h3,rfl⟩))
 | loop h1 h2 h3=>exact .inr (.inr (.inr (.inl ⟨h1,_,_,_,_,h2,h3,rfl⟩)))
 | cond h1 h2 h3 h4=>exact .inr (.inr (.inr (.inr (.inl ⟨h1,_,_,_,_,h2,h3,h4,rfl⟩))))
 | other h1 h2 h3 h4 h5=>exact .inr (.inr (.inr (.inr (.inr ⟨h1,_,_,_,_,_,h2,h3,h4,h5,rfl⟩))))
theorem KX (hp:gM ts) {d k:Nat} {out:Out az} (h:Bx ts (.stmt d) k out) (hq:au ts k≠2):out = .bad k 3:=by
 have ni:aj ts k≠uj:=fun e=>hq (sJ hp e (by decide))
 have nw:aj ts k≠eB:=fun e=>hq (sJ hp e (by decide))
 have ns:aj ts k≠rq:=fun e=>hq (sJ hp e (by decide))
 have nf:aj ts k≠ru:=fun e=>hq (sJ hp e (by decide))
 rcases JE h with ⟨_,_,rfl⟩ | ⟨h1,_⟩ | ⟨h1,_⟩ | ⟨h1,_⟩ | ⟨h1,_⟩ | ⟨h1,_⟩
 ·unfold bH
  rw [if_neg ns,if_neg nf,show gy ts k = .bad k 3 from eO hq];rfl
 ·exact (h1.elim ni nw).elim
 ·exact (h1.elim ni nw).elim
 ·exact (nw h1).elim
 ·exact (ni h1).elim
 ·exact (ni h1).elim
theorem xX (m:Mk) (k:Nat):aW ts ([iX ts].map (·.2)) m k=(iA ts k).map fun a=>{ m with a:=some a }:=by
 show aW ts [gL ts] m k=_
 simp [aW,bf,gL,iA,dD,dY,jH,jX,aN]
theorem zX (k:Nat) (w:List UInt8):((str (aj ts k)).toList == w)=decide (aj ts k=w):=by
 have:=str_eq (aj ts k) w
 rwa [Dc w] at this
theorem Ra {W:World} {g gR' PD:Nat} (h:Sits W g 119 cK) (hf:PD ≠ g) (hl:gR' < g):St W g gR' PD ⟨0,0,0,0,none,none⟩:=⟨⟨.pointer none,.pointer none,h,rfl,rfl⟩,hf,hl⟩
theorem Ov (hp:gM ts) (k:Nat) (IB:∀ k',k<k' -> DI gR gp cap ts k'):Ou gR gp cap ts k:=by
 intro d out w hd hx h;have HP:=Lib.hid hp;have HX:=Lib.hid hx;have Au:=Lib.hid h;have zC:=Lib.hid IB;have Jf:=Lib.hid (show gp<w.heap.size from World.block_lt_of_cell? _ _ (h.at h.lt).1);have Ar:=Lib.hid (show gR<w.heap.size from h.box.lt);have hb:Below w.heap.size w ((w.alloc (.cells cK 119)).alloc (.cells cK 119)):=((Below.refl _ _).alloc (Nat.le_refl _) _).alloc (by simp) _;have HZ:=Lib.hid (show Sits ((w.alloc (.cells cK 119)).alloc (.cells cK 119)) w.heap.size 119 cK from (Sits.new _ _ _).alloc _);have JF:=Lib.hid (show Sits ((w.alloc (.cells cK 119)).alloc (.cells cK 119)) (w.heap.size+1) 119 cK from Sits.made (by simp) _ _);have HB:=Lib.hid (aa.of_below hb:aa (fun x=>x=gR) w _);have HO:=Lib.hid (pI (h.below hb) 2);have HR:=Lib.hid (h.below hb);have HM:=Lib.hid (fun e=>h.good.more k h.lt e);have dd:(d:Int)<=8:=by omega
 have d0:(0:Int)<=(d:Int):=by omega
 have HD1:=Lib.hid (show ((d:Nat):Int)+1=((d+1:Nat):Int) by omega);have Vo:=Lib.hid (show d+1<=9 by omega);have wy:=Lib.hid (fun k2 s (hs:s ≠ []) W (hr:Rd W gR gp cap ts k2)=>fA hr s hs);have SC:=Lib.hid (fun W=>ry (tk ts k) W);have E1:=zX (ts:=ts) k [105,102];have E2:=zX (ts:=ts) k [119,104,105,108,101];have E3:=zX (ts:=ts) k [115,116,111,114,101];have E4:=zX (ts:=ts) k [102,101,110,99,101];clear h hb hp hx IB hd;go_enter Tryz.func81,Tryz.ntmps81;go_wp2_with fail
 change Calls _ _ _ ((w.alloc (.cells cK 119)).alloc (.cells cK 119)) _;generalize (w.alloc (.cells cK 119)).alloc (.cells cK 119)=W0 at HZ JF HB HO HR ⊢;generalize hg5:w.heap.size+1=g5 at JF ⊢;generalize hg4:w.heap.size=g4 at HZ ⊢;have KY:=Lib.hid (show w.heap.size<=g4 by omega);have BM:=Lib.hid (show g4<g5 by omega);have fH:=Lib.hid (show gp≠g5/\gR<g5/\w.heap.size<=g5/\gR≠g4/\g4≠g5 by have:=Jf.out;have:=Ar.out;omega);have HS:=Lib.hid (Ra JF.out fH.out.1 fH.out.2.1);clear hg4 hg5;refine HO.out.mono ?_;rintro e w1 ⟨hk,hq⟩;have rz:=Lib.hid (HB.out.trans hk);have HZ1:=Lib.hid (HZ.out.keep hk fH.out.2.2.2.1.symm);have nC:=Lib.hid (HS.out.keepR HR.out hk);rcases hq with ⟨hq,rfl,hr⟩ | ⟨hq,rfl⟩
 ·have HQ:=Lib.hid hq
  have HR1:=Lib.hid (hr (HM.out (by rw [hq];decide)));have hz:=Sits.new w1 99 ay;have HZP:=Lib.hid hz;have hkk:=bK (w1.alloc (.cells ay 99)) w1.heap.size (pc (tk ts k));have hs:Sits ((w1.alloc (.cells ay 99)).setRow w1.heap.size (pc (tk ts k))) w1.heap.size 99 (pc (tk ts k)):=setRow_heap _ _ _ _ _ _ hz;have hlow:Below w1.heap.size w1 ((w1.alloc (.cells ay 99)).setRow w1.heap.size (pc (tk ts k))):=behind ((Below.refl _ _).alloc (Nat.le_refl _) _) hkk (by simp) (fun x e=>by rw [e];exact Nat.le_refl _);have HN6:=Lib.hid (show w1.heap.size≠gR/\w1.heap.size≠g5 by have:=rz.out.size;have:=Ar.out;have:=(nC.out.Ui).2.2;omega);clear hk hq hr hz hkk;go_upto_region 3 with (refine wpList_store_row rfl 99 _ _ rfl w1.heap.size (pc (tk ts k)) rfl rfl 99 ay HZP.out jq rfl (jr _) ?_)
  change Code.wp _ _ _ _ ((w1.alloc (.cells ay 99)).setRow w1.heap.size (pc (tk ts k)));generalize (w1.alloc (.cells ay 99)).setRow w1.heap.size (pc (tk ts k))=W2 at hs hlow ⊢;generalize w1.heap.size=g6 at hs HN6 ⊢;have AP:=Lib.hid (rz.out.trans (aa.of_below hlow));have Uh:=Lib.hid hs;have HZ2:=Lib.hid (HZ1.out.below hlow HZ1.out.lt);have HS2:=Lib.hid (nC.out.below hlow);have HR2:=Lib.hid (HR1.out.below hlow);obtain ⟨s0,s1,s2,s3,s4⟩:=ku hs;have l6:=hs.lt;change W2.cell? ⟨g6,1,none⟩=some (.string (str (aj ts k))) at s1;unfold pc at SC;change Hid (∀ W,Calls _ _ #[.agg #[_,.string (str (aj ts k)),_,_,_]] W _) at SC;clear hs hlow HO HB HZP HS nC HZ HZ1 HR HR1 rz JF;obtain ⟨c0,f0,l0⟩:=HS2.out.Ui;by_cases hif:aj ts k=uj
  ·rw [decide_eq_true (show aj ts k=[105,102] from hif)] at E1
   have WS:=Lib.hid hif;generalize str (aj ts k)=x at s1 E1 E2 E3 E4 SC;clear hif;have Uo:=Lib.hid ((HS2.out.byte (m':=⟨8,0,0,0,none,none⟩) 0 (.int .u8 (8:Nat)) (fun _ _=>rfl) rfl rfl));have Uq:=Lib.hid (HR2.out.dm HS2.out.far HS2.out.late 0 (.int .u8 (8:Nat)));have Ur:=Lib.hid (AP.out.put (p:=⟨g5,0,none⟩) (.inr fH.out.2.2.1) (.int .u8 (8:Nat)));have Us:=Lib.hid (HZ2.out.far (p:=⟨g5,0,none⟩) fH.out.2.2.2.2 (.int .u8 (8:Nat)));go_wp2_with fail
   have HC:=Lib.hid (iJ [iX ts] (by simp) (by simp) 190 _ rfl Uq.out Uo.out 1 (rO _ _ _));refine HC.out.mono ?_;rintro e w3 ⟨hk,hq⟩;have ve:=Lib.hid (FK Ur.out hk fH.out.2.2.1);have HZ3:=Lib.hid (Us.out.keep hk (fun e=>e.elim fH.out.2.2.2.1.symm fH.out.2.2.2.2));clear hk c0 f0 l0 HC s0 s1 s2 s3 s4 l6;have HCW:=Lib.hid (xX (ts:=ts) ⟨8,0,0,0,none,none⟩ (k+1));rw [HCW.out] at hq;cases ho:iA ts (k+1) with
   | bad j er =>
    rw [ho] at hq;simp only [Out.map] at hq
    subst hq;have jY:Hid (out = .bad j er):=Lib.hid (HX.out.CG (.gJ (.inl WS.out) ho));clear ho;go_wp2_with fail
    rw [jY.out];exact ⟨rfl,ve.out,rfl⟩
   | ok a k3 =>
    rw [ho] at hq;simp only [Out.map] at hq
    obtain ⟨rfl,hs3,hr3⟩:=hq;obtain ⟨pa,pb,hsb⟩:=hs3.sb;have qp:=Lib.hid hsb;have HR3:=Lib.hid hr3;have zW:=Lib.hid ho;have Rb:=Lib.hid (vE HP.out (HM.out (by rw [HQ.out];decide)) ho);obtain ⟨o1,hb1,_⟩:=(mM hr3.good _ k3 (Nat.le_refl _) hr3.lt (d+1)).1;have HB1:=Lib.hid hb1;have hib:=zC.out k3 (by have:=Rb.out.2.2.1;omega) (d+1) o1 w3 Vo.out hb1 hr3;rw [<- HD1.out] at hib;have Ut:=Lib.hid hib;clear ho hs3 hr3 hsb hb1 hib;go_wp2_with fail
    refine Ut.out.mono ?_;rintro e w4 ⟨hk,hq⟩;have qJ:=Lib.hid (ve.out.trans hk);have vV:=Lib.hid (HZ3.out.keep hk fH.out.2.2.2.1.symm);have rZ:=Lib.hid (qp.out.keepR HR3.out hk);have Uu:=Lib.hid (show g5<w3.heap.size from qp.out.box.lt);clear hk;cases o1 with
    | bad j er =>
     simp only at hq
     subst hq;have jY:Hid (out = .bad j er):=Lib.hid (HX.out.CG (.gK (.inl WS.out) zW.out HB1.out));go_wp2_with fail
     rw [jY.out];exact ⟨rfl,qJ.out,rfl⟩
    | ok t k4 =>
     obtain ⟨⟨v,rfl,hv⟩,hr4⟩:=hq;have Ow:aR (kU g5 w4) w4 t v:=hv.wider fun x hx=>⟨Nat.lt_of_lt_of_le Uu.out hx.1,hx.2⟩
     have Fh:=Lib.hid (rZ.out.Oi Ow);have qE:=Lib.hid (hr4.dm rZ.out.far rZ.out.late 6 v);have C9:=Lib.hid (qJ.out.put (p:=⟨g5,6,none⟩) (.inr fH.out.2.2.1) v);have JF:=Lib.hid (vV.out.far (p:=⟨g5,6,none⟩) fH.out.2.2.2.2 v);have c6:=rZ.out.box.cell 6;have f6:=rZ.out.box.free 6;have l6:=rZ.out.box.lt;change w4.cell? ⟨g5,6,none⟩=some jW at c6;unfold jW at c6;obtain ⟨pv,cv,rfl,_⟩:=Ow.len;clear hv Ow hr4;have Zx:=Lib.hid (fun W (hr:Rd W gR gp cap ts k4)=>(lU hr jd (by decide):Calls _ _ #[_,.string (str [101,108,115,101])] W _));go_upto_region 11 with fail
     generalize w4.setCell ⟨g5,6,none⟩ (.slice pv t.len cv)=W5 at Fh qE C9 JF ⊢;clear c6 f6 l6;go_wp2_with fail
     refine (Zx.out _ qE.out).mono ?_;intro e w6 hq;rcases hq with ⟨hc,rfl,hk,hr⟩ | ⟨hc,rfl,hb⟩
     ·have R9:=Lib.hid (Fh.out.keepR qE.out hk)
      have WT:=Lib.hid (JF.out.keep hk fH.out.2.2.2.1.symm);have Kv:=Lib.hid (C9.out.trans hk);have Pz:=Lib.hid hr;have HEL:=Lib.hid hc
      have HKG:=Lib.hid (show k<k4 by
       have h1:=Rb.out.2.2.1;have h2:=((Ju HP.out HB1.out HR3.out.lt trivial t k4 rfl).2).2
       omega)
      obtain ⟨o2,hb2,_⟩:=(mM hr.good _ (k4+1) (Nat.le_refl _) hr.lt (d+1)).1;have HB2:=Lib.hid hb2;have hib:=zC.out (k4+1) (by have:=HKG.out;omega) (d+1) o2 w6 Vo.out hb2 hr;rw [<- HD1.out] at hib;have a0a:=Lib.hid hib;have HOO:=Lib.hid (HX.out.CG (.other WS.out zW.out HB1.out hc hb2));clear hk hr hc hb2 hib;go_wp2_with fail
      refine a0a.out.mono ?_;rintro e w7 ⟨hk,hq⟩;have LX:=Lib.hid (Kv.out.trans hk);have HZ7:=Lib.hid (WT.out.keep hk fH.out.2.2.2.1.symm);have Sc:=Lib.hid (R9.out.keepR Pz.out hk);have a0b:=Lib.hid (show g5<w6.heap.size from R9.out.box.lt);clear hk;cases o2 with
      | bad j er =>
       simp only at hq
       subst hq;go_wp2_with fail
       rw [HOO.out];exact ⟨rfl,LX.out,rfl⟩
      | ok el k7 =>
       obtain ⟨⟨v,rfl,hv⟩,hr7⟩:=hq;have Ow:aR (kU g5 w7) w7 el v:=hv.wider fun x hx=>⟨Nat.lt_of_lt_of_le a0b.out hx.1,hx.2⟩
       have Vf:=Lib.hid (Sc.out.Um Ow);have Vg:=Lib.hid (hr7.dm Sc.out.far Sc.out.late 7 v);have Ps:=Lib.hid (LX.out.put (p:=⟨g5,7,none⟩) (.inr fH.out.2.2.1) v);have Yu:=Lib.hid (HZ7.out.far (p:=⟨g5,7,none⟩) fH.out.2.2.2.2 v);have c7:=Sc.out.box.cell 7;have f7:=Sc.out.box.free 7;have l7:=Sc.out.box.lt;change w7.cell? ⟨g5,7,none⟩=some jW at c7;unfold jW at c7;obtain ⟨Uv,Uw,rfl,_⟩:=Ow.len;have jY:Hid (out = .ok (.cons ⟨8,0,0,0,some a,none⟩ t el .nil) k7):=Lib.hid HOO.out;clear hv Ow hr7;go_upto_region 13 with fail
       generalize w7.setCell ⟨g5,7,none⟩ (.slice Uv el.len Uw)=W8 at Vf Vg Ps Yu ⊢;have AV:=Lib.hid (show Sb W8 g5 gR gp ⟨8,0,0,0,some a,none⟩ t el pa pb (.slice pv t.len cv) (.slice Uv el.len Uw) from Vf.out);obtain ⟨b0,b1,b2,b3,b4,b5,b6,b7,l8⟩:=AV.out.at8;have hD:=oV Au.out Ps.out Vg.out AV.out Yu.out KY.out BM.out Jf.out;clear c7 f7 l7;go_wp2_with (refine wpList_store_row rfl 119 _ _ rfl g4 (aC ⟨8,0,0,0,some a,none⟩ pa pb (.slice pv t.len cv) (.slice Uv el.len Uw)) rfl rfl 119 cK Yu.out qh rfl (lX _ _ _ _ _ _ _ _ _) ?_)
       have iL:Sits (W8.setRow g4 (aC ⟨8,0,0,0,some a,none⟩ pa pb (.slice pv t.len cv) (.slice Uv el.len Uw))) g4 119 (aC ⟨8,0,0,0,some a,none⟩ pa pb (.slice pv t.len cv) (.slice Uv el.len Uw)):=setRow_heap _ _ _ _ _ _ Yu.out;generalize W8.setRow g4 (aC ⟨8,0,0,0,some a,none⟩ pa pb (.slice pv t.len cv) (.slice Uv el.len Uw))=WE at iL hD ⊢;have e0:=iL.cell 0;have e1:=iL.cell 1;have e2:=iL.cell 2;have e3:=iL.cell 3;have e4:=iL.cell 4;have e5:=iL.cell 5;have e6:=iL.cell 6;have e7:=iL.cell 7;have HD:=Lib.hid hD;clear b0 b1 b2 b3 b4 b5 b6 b7 l8 hD iL;unfold aC at e0 e1 e2 e3 e4 e5 e6 e7;rw [jY.out];exact bodyPost_ret (v:=.agg (aC ⟨8,0,0,0,some a,none⟩ pa pb (.slice pv t.len cv) (.slice Uv el.len Uw))) (by simp [results,Tryz.results81,go_sem,e0,e1,e2,e3,e4,e5,e6,e7,aC]) rfl HD.out
     ·have R9:=Lib.hid (Fh.out.below hb)
      have WT:=Lib.hid (JF.out.below hb JF.out.lt);have Kv:=Lib.hid (C9.out.trans (aa.of_below hb));have Pz:=Lib.hid (qE.out.below hb);have jY:Hid (out = .ok (.cons ⟨8,0,0,0,some a,none⟩ t .nil .nil) k4):=Lib.hid (HX.out.CG (.cond WS.out zW.out HB1.out hc));clear hc hb;have AV:=Lib.hid (show Sb w6 g5 gR gp ⟨8,0,0,0,some a,none⟩ t .nil pa pb (.slice pv t.len cv) (.slice none 0 0) from R9.out);obtain ⟨b0,b1,b2,b3,b4,b5,b6,b7,l8⟩:=AV.out.at8;have hD:=oV Au.out Kv.out Pz.out AV.out WT.out KY.out BM.out Jf.out
      skip
      go_wp2_with (refine wpList_store_row rfl 119 _ _ rfl g4 (aC ⟨8,0,0,0,some a,none⟩ pa pb (.slice pv t.len cv) (.slice none 0 0)) rfl rfl 119 cK WT.out qh rfl (lX _ _ _ _ _ _ _ _ _) ?_)
      have iL:Sits (w6.setRow g4 (aC ⟨8,0,0,0,some a,none⟩ pa pb (.slice pv t.len cv) (.slice none 0 0))) g4 119 (aC ⟨8,0,0,0,some a,none⟩ pa pb (.slice pv t.len cv) (.slice none 0 0)):=setRow_heap _ _ _ _ _ _ WT.out;generalize w6.setRow g4 (aC ⟨8,0,0,0,some a,none⟩ pa pb (.slice pv t.len cv) (.slice none 0 0))=WE at iL hD ⊢;have e0:=iL.cell 0;have e1:=iL.cell 1;have e2:=iL.cell 2;have e3:=iL.cell 3;have e4:=iL.cell 4;have e5:=iL.cell 5;have e6:=iL.cell 6;have e7:=iL.cell 7;have HD:=Lib.hid hD;clear b0 b1 b2 b3 b4 b5 b6 b7 l8 hD iL;unfold aC at e0 e1 e2 e3 e4 e5 e6 e7;rw [jY.out];exact bodyPost_ret (v:=.agg (aC ⟨8,0,0,0,some a,none⟩ pa pb (.slice pv t.len cv) (.slice none 0 0))) (by simp [results,Tryz.results81,go_sem,e0,e1,e2,e3,e4,e5,e6,e7,aC,Act.put]) rfl HD.out
  by_cases SE:aj ts k=eB
  ·rw [decide_eq_false (show aj ts k ≠ [105,102] from hif)] at E1
   rw [decide_eq_true (show aj ts k=[119,104,105,108,101] from SE)] at E2;have WS:=Lib.hid hif;have HWH:=Lib.hid SE;generalize str (aj ts k)=x at s1 E1 E2 E3 E4 SC;clear hif SE;have Uo:=Lib.hid ((HS2.out.byte (m':=⟨9,0,0,0,none,none⟩) 0 (.int .u8 (9:Nat)) (fun _ _=>rfl) rfl rfl));have Uq:=Lib.hid (HR2.out.dm HS2.out.far HS2.out.late 0 (.int .u8 (9:Nat)));have Ur:=Lib.hid (AP.out.put (p:=⟨g5,0,none⟩) (.inr fH.out.2.2.1) (.int .u8 (9:Nat)));have Us:=Lib.hid (HZ2.out.far (p:=⟨g5,0,none⟩) fH.out.2.2.2.2 (.int .u8 (9:Nat)));go_wp2_with fail
   have HC:=Lib.hid (iJ [iX ts] (by simp) (by simp) 190 _ rfl Uq.out Uo.out 1 (rO _ _ _));refine HC.out.mono ?_;rintro e w3 ⟨hk,hq⟩;have ve:=Lib.hid (FK Ur.out hk fH.out.2.2.1);have HZ3:=Lib.hid (Us.out.keep hk (fun e=>e.elim fH.out.2.2.2.1.symm fH.out.2.2.2.2));clear hk c0 f0 l0 HC s0 s1 s2 s3 s4 l6;have HCW:=Lib.hid (xX (ts:=ts) ⟨9,0,0,0,none,none⟩ (k+1));rw [HCW.out] at hq;cases ho:iA ts (k+1) with
   | bad j er =>
    rw [ho] at hq;simp only [Out.map] at hq
    subst hq;have jY:Hid (out = .bad j er):=Lib.hid (HX.out.CG (.gJ (.inr HWH.out) ho));clear ho;go_wp2_with fail
    rw [jY.out];exact ⟨rfl,ve.out,rfl⟩
   | ok a k3 =>
    rw [ho] at hq;simp only [Out.map] at hq
    obtain ⟨rfl,hs3,hr3⟩:=hq;obtain ⟨pa,pb,hsb⟩:=hs3.sb;have qp:=Lib.hid hsb;have HR3:=Lib.hid hr3;have zW:=Lib.hid ho;have Rb:=Lib.hid (vE HP.out (HM.out (by rw [HQ.out];decide)) ho);obtain ⟨o1,hb1,_⟩:=(mM hr3.good _ k3 (Nat.le_refl _) hr3.lt (d+1)).1;have HB1:=Lib.hid hb1;have hib:=zC.out k3 (by have:=Rb.out.2.2.1;omega) (d+1) o1 w3 Vo.out hb1 hr3;rw [<- HD1.out] at hib;have Ut:=Lib.hid hib;clear ho hs3 hr3 hsb hb1 hib;go_wp2_with fail
    refine Ut.out.mono ?_;rintro e w4 ⟨hk,hq⟩;have qJ:=Lib.hid (ve.out.trans hk);have vV:=Lib.hid (HZ3.out.keep hk fH.out.2.2.2.1.symm);have rZ:=Lib.hid (qp.out.keepR HR3.out hk);have Uu:=Lib.hid (show g5<w3.heap.size from qp.out.box.lt);clear hk;cases o1 with
    | bad j er =>
     simp only at hq
     subst hq;have jY:Hid (out = .bad j er):=Lib.hid (HX.out.CG (.gK (.inr HWH.out) zW.out HB1.out));go_wp2_with fail
     rw [jY.out];exact ⟨rfl,qJ.out,rfl⟩
    | ok t k4 =>
     obtain ⟨⟨v,rfl,hv⟩,hr4⟩:=hq;have Ow:aR (kU g5 w4) w4 t v:=hv.wider fun x hx=>⟨Nat.lt_of_lt_of_le Uu.out hx.1,hx.2⟩
     have Fh:=Lib.hid (rZ.out.Oi Ow);have qE:=Lib.hid (hr4.dm rZ.out.far rZ.out.late 6 v);have C9:=Lib.hid (qJ.out.put (p:=⟨g5,6,none⟩) (.inr fH.out.2.2.1) v);have JF:=Lib.hid (vV.out.far (p:=⟨g5,6,none⟩) fH.out.2.2.2.2 v);have c6:=rZ.out.box.cell 6;have f6:=rZ.out.box.free 6;have l6:=rZ.out.box.lt;change w4.cell? ⟨g5,6,none⟩=some jW at c6;unfold jW at c6;obtain ⟨pv,cv,rfl,_⟩:=Ow.len;clear hv Ow hr4;have jY:Hid (out = .ok (.cons ⟨9,0,0,0,some a,none⟩ t .nil .nil) k4):=Lib.hid (HX.out.CG (.loop HWH.out zW.out HB1.out));go_upto_region 18 with fail
     generalize w4.setCell ⟨g5,6,none⟩ (.slice pv t.len cv)=W5 at Fh qE C9 JF ⊢;have AV:=Lib.hid (show Sb W5 g5 gR gp ⟨9,0,0,0,some a,none⟩ t .nil pa pb (.slice pv t.len cv) (.slice none 0 0) from Fh.out);obtain ⟨b0,b1,b2,b3,b4,b5,b6,b7,l8⟩:=AV.out.at8;have hD:=oV Au.out C9.out qE.out AV.out JF.out KY.out BM.out Jf.out;clear c6 f6 l6;go_wp2_with (refine wpList_store_row rfl 119 _ _ rfl g4 (aC ⟨9,0,0,0,some a,none⟩ pa pb (.slice pv t.len cv) (.slice none 0 0)) rfl rfl 119 cK JF.out qh rfl (lX _ _ _ _ _ _ _ _ _) ?_)
     have iL:Sits (W5.setRow g4 (aC ⟨9,0,0,0,some a,none⟩ pa pb (.slice pv t.len cv) (.slice none 0 0))) g4 119 (aC ⟨9,0,0,0,some a,none⟩ pa pb (.slice pv t.len cv) (.slice none 0 0)):=setRow_heap _ _ _ _ _ _ JF.out;generalize W5.setRow g4 (aC ⟨9,0,0,0,some a,none⟩ pa pb (.slice pv t.len cv) (.slice none 0 0))=WE at iL hD ⊢;have e0:=iL.cell 0;have e1:=iL.cell 1;have e2:=iL.cell 2;have e3:=iL.cell 3;have e4:=iL.cell 4;have e5:=iL.cell 5;have e6:=iL.cell 6;have e7:=iL.cell 7;have HD:=Lib.hid hD;clear b0 b1 b2 b3 b4 b5 b6 b7 l8 hD iL;unfold aC at e0 e1 e2 e3 e4 e5 e6 e7;rw [jY.out];exact bodyPost_ret (v:=.agg (aC ⟨9,0,0,0,some a,none⟩ pa pb (.slice pv t.len cv) (.slice none 0 0))) (by simp [results,Tryz.results81,go_sem,e0,e1,e2,e3,e4,e5,e6,e7,aC]) rfl HD.out
  have KZ:Hid (out=(bH ts k).map fun m => .cons m .nil .nil .nil):=Lib.hid (by
   rcases JE HX.out with ⟨_,_,h⟩ | ⟨h1,_⟩ | ⟨h1,_⟩ | ⟨h1,_⟩ | ⟨h1,_⟩ | ⟨h1,_⟩
   ·exact h
   ·exact (h1.elim hif SE).elim
   ·exact (h1.elim hif SE).elim
   ·exact (SE h1).elim
   ·exact (hif h1).elim
   ·exact (hif h1).elim)
  rw [decide_eq_false (show aj ts k ≠ [105,102] from hif)] at E1;rw [decide_eq_false (show aj ts k ≠ [119,104,105,108,101] from SE)] at E2;clear hif SE;by_cases hst:aj ts k=rq
  ·rw [decide_eq_true (show aj ts k=[115,116,111,114,101] from hst)] at E3
   have HST:=Lib.hid hst;generalize str (aj ts k)=x at s1 E1 E2 E3 E4 SC;clear hst;have Uo:=Lib.hid ((HS2.out.byte (m':=⟨3,0,0,0,none,none⟩) 0 (.int .u8 (3:Nat)) (fun _ _=>rfl) rfl rfl));have Uq:=Lib.hid (HR2.out.dm HS2.out.far HS2.out.late 0 (.int .u8 (3:Nat)));have Ur:=Lib.hid (AP.out.put (p:=⟨g5,0,none⟩) (.inr fH.out.2.2.1) (.int .u8 (3:Nat)));have Us:=Lib.hid (HZ2.out.far (p:=⟨g5,0,none⟩) fH.out.2.2.2.2 (.int .u8 (3:Nat)));go_wp2_with fail
   have HC:=Lib.hid (iJ [jy ts,iX ts,jI ts] (by simp) (by simp) 190 _ rfl Uq.out Uo.out 3 (rO _ _ _));refine HC.out.mono ?_;rintro e w3 ⟨hk,hq⟩;have ve:=Lib.hid (FK Ur.out hk fH.out.2.2.1);have HZ3:=Lib.hid (Us.out.keep hk (fun e=>e.elim fH.out.2.2.2.1.symm fH.out.2.2.2.2));clear hk c0 f0 l0 HC s0 s1 s2 s3 s4 l6;cases ho:aW ts ([jy ts,iX ts,jI ts].map (·.2)) ⟨3,0,0,0,none,none⟩ (k+1) with
   | bad j er =>
    rw [ho] at hq;simp only at hq
    subst hq;have jY:Hid (out = .bad j er):=Lib.hid (by rw [KZ.out,show bH ts k=_ from (by unfold bH;rw [if_pos HST.out];exact G6 ts 0 (k+1):bH ts k=(aW ts ([jy ts,iX ts,jI ts].map (·.2)) ⟨3,0,0,0,none,none⟩ (k+1)).bind (dS ts)),mJ ho];rfl);clear ho;go_wp2_with fail
    rw [jY.out];exact ⟨rfl,ve.out,rfl⟩
   | ok a k3 =>
    rw [ho] at hq;obtain ⟨rfl,hs3,hr3⟩:=hq;have qp:=Lib.hid hs3;have HR3:=Lib.hid hr3;have zW:=Lib.hid ho;clear ho hs3 hr3;have Ox:=Lib.hid (wy.out k3 [59] (by simp) w3 HR3.out);go_wp2_with fail
    refine Ox.out.mono ?_;rintro e w4 ⟨hk,hq⟩;have qJ:=Lib.hid (ve.out.trans hk);have vV:=Lib.hid (HZ3.out.keep hk fH.out.2.2.2.1.symm);obtain ⟨pa,pb,hsb⟩:=(qp.out.keepR HR3.out hk).sb;have rZ:=Lib.hid hsb;clear hk hsb;cases ho:ak ts [59] k3 with
    | bad j er =>
     rw [ho] at hq;simp only at hq
     subst hq;have jY:Hid (out = .bad j er):=Lib.hid (by rw [KZ.out,show bH ts k=_ from (by unfold bH;rw [if_pos HST.out];exact G6 ts 0 (k+1):bH ts k=(aW ts ([jy ts,iX ts,jI ts].map (·.2)) ⟨3,0,0,0,none,none⟩ (k+1)).bind (dS ts)),bind_ok zW.out];show ((ak ts [59] k3).map _).map _=_;rw [ho];rfl);clear ho;go_wp2_with fail
     rw [jY.out];exact ⟨rfl,qJ.out,rfl⟩
    | ok u kz =>
     rw [ho] at hq;obtain ⟨hv,hr⟩:=hq;simp only [mH] at hv
     subst hv;have HR4:=Lib.hid hr;have jY:Hid (out = .ok (.cons a .nil .nil .nil) kz):=Lib.hid (by rw [KZ.out,show bH ts k=_ from (by unfold bH;rw [if_pos HST.out];exact G6 ts 0 (k+1):bH ts k=(aW ts ([jy ts,iX ts,jI ts].map (·.2)) ⟨3,0,0,0,none,none⟩ (k+1)).bind (dS ts)),bind_ok zW.out];show ((ak ts [59] k3).map _).map _=_;rw [ho];rfl);clear ho hr;have AV:=Lib.hid (show Sb w4 g5 gR gp a .nil .nil pa pb (.slice none 0 0) (.slice none 0 0) from rZ.out);obtain ⟨b0,b1,b2,b3,b4,b5,b6,b7,l8⟩:=AV.out.at8;have hD:=oV Au.out qJ.out HR4.out AV.out vV.out KY.out BM.out Jf.out
     skip
     go_wp2_with (refine wpList_store_row rfl 119 _ _ rfl g4 (aC a pa pb (.slice none 0 0) (.slice none 0 0)) rfl rfl 119 cK vV.out qh rfl (lX _ _ _ _ _ _ _ _ _) ?_)
     have iL:Sits (w4.setRow g4 (aC a pa pb (.slice none 0 0) (.slice none 0 0))) g4 119 (aC a pa pb (.slice none 0 0) (.slice none 0 0)):=setRow_heap _ _ _ _ _ _ vV.out;generalize w4.setRow g4 (aC a pa pb (.slice none 0 0) (.slice none 0 0))=WE at iL hD ⊢;have e0:=iL.cell 0;have e1:=iL.cell 1;have e2:=iL.cell 2;have e3:=iL.cell 3;have e4:=iL.cell 4;have e5:=iL.cell 5;have e6:=iL.cell 6;have e7:=iL.cell 7;have HD:=Lib.hid hD;clear b0 b1 b2 b3 b4 b5 b6 b7 l8 hD iL;unfold aC at e0 e1 e2 e3 e4 e5 e6 e7;rw [jY.out];exact bodyPost_ret (v:=.agg (aC a pa pb (.slice none 0 0) (.slice none 0 0))) (by simp [results,Tryz.results81,go_sem,e0,e1,e2,e3,e4,e5,e6,e7,aC,Act.put]) rfl HD.out
  by_cases hfe:aj ts k=ru
  ·rw [decide_eq_false (show aj ts k ≠ [115,116,111,114,101] from hst)] at E3
   rw [decide_eq_true (show aj ts k=[102,101,110,99,101] from hfe)] at E4;have HST:=Lib.hid hst;have Sn:=Lib.hid hfe;generalize str (aj ts k)=x at s1 E1 E2 E3 E4 SC;clear hst hfe;have Uo:=Lib.hid ((HS2.out.byte (m':=⟨7,0,0,0,none,none⟩) 0 (.int .u8 (7:Nat)) (fun _ _=>rfl) rfl rfl));have Uq:=Lib.hid (HR2.out.dm HS2.out.far HS2.out.late 0 (.int .u8 (7:Nat)));have Ur:=Lib.hid (AP.out.put (p:=⟨g5,0,none⟩) (.inr fH.out.2.2.1) (.int .u8 (7:Nat)));have Us:=Lib.hid (HZ2.out.far (p:=⟨g5,0,none⟩) fH.out.2.2.2.2 (.int .u8 (7:Nat)));go_wp2_with fail
   have HC:=Lib.hid (iJ [jI ts] (by simp) (by simp) 190 _ rfl Uq.out Uo.out 1 (rO _ _ _));refine HC.out.mono ?_;rintro e w3 ⟨hk,hq⟩;have ve:=Lib.hid (FK Ur.out hk fH.out.2.2.1);have HZ3:=Lib.hid (Us.out.keep hk (fun e=>e.elim fH.out.2.2.2.1.symm fH.out.2.2.2.2));clear hk c0 f0 l0 HC s0 s1 s2 s3 s4 l6;cases ho:aW ts ([jI ts].map (·.2)) ⟨7,0,0,0,none,none⟩ (k+1) with
   | bad j er =>
    rw [ho] at hq;simp only at hq
    subst hq;have jY:Hid (out = .bad j er):=Lib.hid (by rw [KZ.out,show bH ts k=_ from (by unfold bH;rw [if_neg HST.out,if_pos Sn.out];exact G5 ts 0 (k+1):bH ts k=(aW ts ([jI ts].map (·.2)) ⟨7,0,0,0,none,none⟩ (k+1)).bind (dS ts)),mJ ho];rfl);clear ho;go_wp2_with fail
    rw [jY.out];exact ⟨rfl,ve.out,rfl⟩
   | ok a k3 =>
    rw [ho] at hq;obtain ⟨rfl,hs3,hr3⟩:=hq;have qp:=Lib.hid hs3;have HR3:=Lib.hid hr3;have zW:=Lib.hid ho;clear ho hs3 hr3;have Ox:=Lib.hid (wy.out k3 [59] (by simp) w3 HR3.out);go_wp2_with fail
    refine Ox.out.mono ?_;rintro e w4 ⟨hk,hq⟩;have qJ:=Lib.hid (ve.out.trans hk);have vV:=Lib.hid (HZ3.out.keep hk fH.out.2.2.2.1.symm);obtain ⟨pa,pb,hsb⟩:=(qp.out.keepR HR3.out hk).sb;have rZ:=Lib.hid hsb;clear hk hsb;cases ho:ak ts [59] k3 with
    | bad j er =>
     rw [ho] at hq;simp only at hq
     subst hq;have jY:Hid (out = .bad j er):=Lib.hid (by rw [KZ.out,show bH ts k=_ from (by unfold bH;rw [if_neg HST.out,if_pos Sn.out];exact G5 ts 0 (k+1):bH ts k=(aW ts ([jI ts].map (·.2)) ⟨7,0,0,0,none,none⟩ (k+1)).bind (dS ts)),bind_ok zW.out];show ((ak ts [59] k3).map _).map _=_;rw [ho];rfl);clear ho;go_wp2_with fail
     rw [jY.out];exact ⟨rfl,qJ.out,rfl⟩
    | ok u kz =>
     rw [ho] at hq;obtain ⟨hv,hr⟩:=hq;simp only [mH] at hv
     subst hv;have HR4:=Lib.hid hr;have jY:Hid (out = .ok (.cons a .nil .nil .nil) kz):=Lib.hid (by rw [KZ.out,show bH ts k=_ from (by unfold bH;rw [if_neg HST.out,if_pos Sn.out];exact G5 ts 0 (k+1):bH ts k=(aW ts ([jI ts].map (·.2)) ⟨7,0,0,0,none,none⟩ (k+1)).bind (dS ts)),bind_ok zW.out];show ((ak ts [59] k3).map _).map _=_;rw [ho];rfl);clear ho hr;have AV:=Lib.hid (show Sb w4 g5 gR gp a .nil .nil pa pb (.slice none 0 0) (.slice none 0 0) from rZ.out);obtain ⟨b0,b1,b2,b3,b4,b5,b6,b7,l8⟩:=AV.out.at8;have hD:=oV Au.out qJ.out HR4.out AV.out vV.out KY.out BM.out Jf.out
     skip
     go_wp2_with (refine wpList_store_row rfl 119 _ _ rfl g4 (aC a pa pb (.slice none 0 0) (.slice none 0 0)) rfl rfl 119 cK vV.out qh rfl (lX _ _ _ _ _ _ _ _ _) ?_)
     have iL:Sits (w4.setRow g4 (aC a pa pb (.slice none 0 0) (.slice none 0 0))) g4 119 (aC a pa pb (.slice none 0 0) (.slice none 0 0)):=setRow_heap _ _ _ _ _ _ vV.out;generalize w4.setRow g4 (aC a pa pb (.slice none 0 0) (.slice none 0 0))=WE at iL hD ⊢;have e0:=iL.cell 0;have e1:=iL.cell 1;have e2:=iL.cell 2;have e3:=iL.cell 3;have e4:=iL.cell 4;have e5:=iL.cell 5;have e6:=iL.cell 6;have e7:=iL.cell 7;have HD:=Lib.hid hD;clear b0 b1 b2 b3 b4 b5 b6 b7 l8 hD iL;unfold aC at e0 e1 e2 e3 e4 e5 e6 e7;rw [jY.out];exact bodyPost_ret (v:=.agg (aC a pa pb (.slice none 0 0) (.slice none 0 0))) (by simp [results,Tryz.results81,go_sem,e0,e1,e2,e3,e4,e5,e6,e7,aC,Act.put]) rfl HD.out
  rw [decide_eq_false (show aj ts k ≠ [115,116,111,114,101] from hst)] at E3;rw [decide_eq_false (show aj ts k ≠ [102,101,110,99,101] from hfe)] at E4;have HST:=Lib.hid hst;have Sn:=Lib.hid hfe;generalize str (aj ts k)=x at s1 E1 E2 E3 E4 SC;clear hst hfe;have Jt:Hid (bH ts k=(gy ts k).bind fun r k=>(ak ts [61] k).bind fun _ k=>qD ts r k):=Lib.hid (by unfold bH;rw [if_neg HST.out,if_neg Sn.out]);go_wp2_with fail
  refine (SC.out _).mono ?_;rintro e w3 ⟨hb,hm⟩;have ve:=Lib.hid (AP.out.trans (aa.of_below hb));have HZ3:=Lib.hid (HZ2.out.below hb HZ2.out.lt);have qp:=Lib.hid (HS2.out.below hb);have HR3:=Lib.hid (HR2.out.below hb);clear hb c0 f0 l0 s0 s1 s2 s3 s4 l6;cases hx:iy (tk ts k).text with
  | none =>
   have hm:e = .panicked (GM (tk ts k) 7):=by
    change (match iy (tk ts k).text with | some i=>e = .returned (.int .u8 (i:Nat)) | none=>e = .panicked (GM (tk ts k) 7)) at hm;rw [hx] at hm;exact hm
   subst hm;have jY:Hid (out = .bad k 7):=Lib.hid (by rw [KZ.out,Jt.out,show gy ts k = .bad k 7 from fO HQ.out hx];rfl);clear hx;go_wp2_with fail
   rw [jY.out];exact ⟨rfl,ve.out,rfl⟩
  | some rg =>
   have hm:e = .returned (.int .u8 (rg:Nat)):=by
    change (match iy (tk ts k).text with | some i=>e = .returned (.int .u8 (i:Nat)) | none=>e = .panicked (GM (tk ts k) 7)) at hm;rw [hx] at hm;exact hm
   subst hm;have Ym:Hid (bH ts k=(ak ts [61] (k+1)).bind fun _ k=>qD ts rg k):=Lib.hid (by rw [Jt.out,show gy ts k = .ok rg (k+1) from fM HQ.out hx];rfl);have HSr:=Lib.hid (qp.out.byte (m':=⟨0,rg,0,0,none,none⟩) 1 (.int .u8 (rg:Nat)) (fun _ _=>rfl) rfl rfl);have Sg:=Lib.hid (HR3.out.dm qp.out.far qp.out.late 1 (.int .u8 (rg:Nat)));have HKr:=Lib.hid (ve.out.put (p:=⟨g5,1,none⟩) (.inr fH.out.2.2.1) (.int .u8 (rg:Nat)));have HZr:=Lib.hid (HZ3.out.far (p:=⟨g5,1,none⟩) fH.out.2.2.2.2 (.int .u8 (rg:Nat)));obtain ⟨⟨av,bv,hbx,_,_⟩,_,_⟩:=qp.out;have c1:=hbx.c1;have f1:=hbx.free 1;have l1:=hbx.lt;have a0c:=Lib.hid (wy.out (k+1) [61] (by simp) _ Sg.out);clear hx hbx;go_wp2_with fail
   refine a0c.out.mono ?_;rintro e w4 ⟨hk,hq⟩;have qJ:=Lib.hid (HKr.out.trans hk);have vV:=Lib.hid (HZr.out.keep hk fH.out.2.2.2.1.symm);have rZ:=Lib.hid (HSr.out.keepR Sg.out hk);clear hk c1 f1 l1;cases ho:ak ts [61] (k+1) with
   | bad j er =>
    rw [ho] at hq;simp only at hq
    subst hq;have jY:Hid (out = .bad j er):=Lib.hid (by rw [KZ.out,Ym.out,ho];rfl);clear ho;go_wp2_with fail
    rw [jY.out];exact ⟨rfl,qJ.out,rfl⟩
   | ok u k4 =>
    rw [ho] at hq;obtain ⟨hv,hr⟩:=hq;simp only [mH] at hv
    subst hv;have HR4:=Lib.hid hr;have Vp:Hid (bH ts k=qD ts rg k4):=Lib.hid (by rw [Ym.out,ho];rfl);have HC:=Lib.hid (Q5 g5 _ k4 w4 HR4.out rZ.out);clear ho hr;go_wp2_with fail
    refine HC.out.mono ?_;rintro e w3 ⟨hk,hq⟩;have ve:=Lib.hid (FK qJ.out hk fH.out.2.2.1);have HZ3:=Lib.hid (vV.out.keep hk (fun e=>e.elim fH.out.2.2.2.1.symm fH.out.2.2.2.2));clear hk HC;cases ho:ny ts ⟨0,rg,0,0,none,none⟩ k4 with
    | bad j er =>
     rw [ho] at hq;simp only at hq
     subst hq;have jY:Hid (out = .bad j er):=Lib.hid (by rw [KZ.out,Vp.out,De,show TR ts rg k4=ny ts ⟨0,rg,0,0,none,none⟩ k4 from rfl,mJ ho];rfl);clear ho;go_wp2_with fail
     rw [jY.out];exact ⟨rfl,ve.out,rfl⟩
    | ok a k3 =>
     rw [ho] at hq;obtain ⟨rfl,hs3,hr3⟩:=hq;have qp:=Lib.hid hs3;have HR3:=Lib.hid hr3;have zW:=Lib.hid ho;clear ho hs3 hr3;have Ox:=Lib.hid (wy.out k3 [59] (by simp) w3 HR3.out);go_wp2_with fail
     refine Ox.out.mono ?_;rintro e w4 ⟨hk,hq⟩;have qJ:=Lib.hid (ve.out.trans hk);have vV:=Lib.hid (HZ3.out.keep hk fH.out.2.2.2.1.symm);obtain ⟨pa,pb,hsb⟩:=(qp.out.keepR HR3.out hk).sb;have rZ:=Lib.hid hsb;clear hk hsb;cases ho:ak ts [59] k3 with
     | bad j er =>
      rw [ho] at hq;simp only at hq
      subst hq;have jY:Hid (out = .bad j er):=Lib.hid (by rw [KZ.out,(show bH ts k=(ny ts ⟨0,rg,0,0,none,none⟩ k4).bind (dS ts) from Vp.out.trans (De ts rg k4)),bind_ok zW.out];show ((ak ts [59] k3).map _).map _=_;rw [ho];rfl);clear ho;go_wp2_with fail
      rw [jY.out];exact ⟨rfl,qJ.out,rfl⟩
     | ok u kz =>
      rw [ho] at hq;obtain ⟨hv,hr⟩:=hq;simp only [mH] at hv
      subst hv;have HR4:=Lib.hid hr;have jY:Hid (out = .ok (.cons a .nil .nil .nil) kz):=Lib.hid (by rw [KZ.out,(show bH ts k=(ny ts ⟨0,rg,0,0,none,none⟩ k4).bind (dS ts) from Vp.out.trans (De ts rg k4)),bind_ok zW.out];show ((ak ts [59] k3).map _).map _=_;rw [ho];rfl);clear ho hr;have AV:=Lib.hid (show Sb w4 g5 gR gp a .nil .nil pa pb (.slice none 0 0) (.slice none 0 0) from rZ.out);obtain ⟨b0,b1,b2,b3,b4,b5,b6,b7,l8⟩:=AV.out.at8;have hD:=oV Au.out qJ.out HR4.out AV.out vV.out KY.out BM.out Jf.out
      skip
      go_wp2_with (refine wpList_store_row rfl 119 _ _ rfl g4 (aC a pa pb (.slice none 0 0) (.slice none 0 0)) rfl rfl 119 cK vV.out qh rfl (lX _ _ _ _ _ _ _ _ _) ?_)
      have iL:Sits (w4.setRow g4 (aC a pa pb (.slice none 0 0) (.slice none 0 0))) g4 119 (aC a pa pb (.slice none 0 0) (.slice none 0 0)):=setRow_heap _ _ _ _ _ _ vV.out;generalize w4.setRow g4 (aC a pa pb (.slice none 0 0) (.slice none 0 0))=WE at iL hD ⊢;have e0:=iL.cell 0;have e1:=iL.cell 1;have e2:=iL.cell 2;have e3:=iL.cell 3;have e4:=iL.cell 4;have e5:=iL.cell 5;have e6:=iL.cell 6;have e7:=iL.cell 7;have HD:=Lib.hid hD;clear b0 b1 b2 b3 b4 b5 b6 b7 l8 hD iL;unfold aC at e0 e1 e2 e3 e4 e5 e6 e7;rw [jY.out];exact bodyPost_ret (v:=.agg (aC a pa pb (.slice none 0 0) (.slice none 0 0))) (by simp [results,Tryz.results81,go_sem,e0,e1,e2,e3,e4,e5,e6,e7,aC,Act.put]) rfl HD.out
 ·have HE:=Lib.hid (KX HP.out HX.out hq)
  clear hk hq;go_wp2_with fail
  rw [HE.out];exact ⟨rfl,rz.out,rfl⟩
end
end Go.Proofs.YtaanhmndeobgbaaGreatDoor.fT
