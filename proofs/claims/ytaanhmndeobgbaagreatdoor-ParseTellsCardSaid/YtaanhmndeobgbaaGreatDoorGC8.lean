/- Part 29 of the proof: what is used of the texts PtlM, PtlN. -/
import Derived.Test.YtaanhmndeobgbaaGreatDoorGC7
set_option maxRecDepth 100000
set_option maxHeartbeats 4000000
namespace Go.Proofs.YtaanhmndeobgbaaGreatDoor.fT
open Go.RowKit Mem Go.Proofs.YtaanhmndeobgbaaGreatDoor.Expr Prog Go.Lib ae
open Go.Proofs.YtaanhmndeobgbaaGreatDoor.Row (Lay cellsOf bO dQ mU eX cz eY dM ax aO iU)
open Lex (Tok cO jA)
theorem N7 {ts:List Lex.Tok} (hG:gM ts) (k:Nat):mE 2 (aZ ts 3 k 0)=iH ts k:=by
 by_cases h:au ts k=3
 ·rw [show aZ ts 3 k 0=aj ts k from if_pos ⟨rfl,h⟩];rfl
 ·rw [show aZ ts 3 k 0=[] from if_neg fun e=>h e.2]
  by_cases h2:iH ts k=0
  ·rw [h2];decide
  ·exfalso
   have hs:=(mR (s:=aj ts k) (n:=2) h2).2;have ho:=Nw h2;unfold iH at ho;have hd:∃ c r,aj ts k=c :: r/\cO c=false:=by
    rw [<- hs];generalize mE 2 (aj ts k)=q at ho;obtain rfl | rfl | rfl | rfl | rfl | rfl | rfl | rfl | rfl | rfl | rfl | rfl:q=1 \/ q=2 \/ q=3 \/ q=4 \/ q=5 \/ q=6 \/ q=7 \/ q=8 \/ q=9 \/ q=10 \/ q=11 \/ q=12:=by omega
    all_goals exact ⟨_,_,rfl,by decide⟩
   exact h (gW hG hd rfl)
theorem zP {ts:List Lex.Tok} {ask:Bool} {o n k:Nat} {o2:Out Ex} (h:Px ts ask (.ops o n) k o2):∀ e k',o2 = .ok e k' -> ai (iH ts k')<n/\k<k' /\ (bZ e).length+k<=k':=fun e k' he=>by
 subst he;have h1:=Jz h _ _ rfl;have h2:=h.grows _ _ rfl;simp only [Gl.pre,Gl.low] at h1 h2
 exact ⟨QH h,h2,by omega⟩
theorem FH {ts:List Lex.Tok} (hG:gM ts) {k:Nat} (hk:k<ts.length) (h:iH ts k≠0):k+1<ts.length:=hG.good.more k hk fun h0=>h (by unfold iH;rw [hG.fin k h0];decide)
theorem vI {e:TypeId} {size B:Nat} {w:World} {g:Nat} {cs:List Value} (hs:cs.length=size) (h:Sits w g e cs.toArray) (hB:B<=g):cz e size B w (some ⟨g,0,none⟩) 1 1 cs :=
 dM ⟨by rw [hs,Nat.one_mul],.inr ⟨g,1,cs.toArray,rfl,hB,h,Nat.le_refl 1,by decide,by rw [Nat.one_mul,<- hs];simp,by rw [Nat.one_mul,<- hs];simp⟩⟩
theorem aP.nQ {α:Type} {v:Value} {n:Nat} {a:α} {k k2 j2 e2:Nat} (h:aP v n (.ok a k) (.agg #[v,.int .i64 (k2:Nat),.int .i64 (j2:Nat),.int .i64 (e2:Nat)])):k2=k/\j2=0/\e2=0/\k<n:=by
 obtain ⟨he,hk1⟩:=h;injection he with he;injection he with he;injection he with _ he;injection he with he1 he;injection he with he2 he;injection he with Hw _;injection he1 with _ he1;injection he2 with _ he2;injection Hw with _ Hw;omega
theorem aP.mV {α:Type} {v:Value} {n:Nat} {j e k2 j2 e2:Nat} (h:aP v n (.bad j e:Out α) (.agg #[v,.int .i64 (k2:Nat),.int .i64 (j2:Nat),.int .i64 (e2:Nat)])):j2=j/\e2=e/\e≠0/\j<n/\k2<n:=by
 obtain ⟨k,he,h1,h2,h3⟩:=h;injection he with he;injection he with he;injection he with _ he;injection he with he1 he;injection he with he2 he;injection he with Hw _;injection he1 with _ he1;injection he2 with _ he2;injection Hw with _ Hw;omega
def Wu (B:Nat) (ts:List Lex.Tok) (gp op c:Nat) (ask:Bool) (oo least k m:Nat) (out:Out Ex) (W:World) (g:Nat) (lv:Value):Prop :=
 (∃ e k1,m=ts.length - k1/\k<k1/\k1<ts.length/\Px ts ask (.loop oo least e) k1 out/\ai (iH ts k1)<=least/\(bZ e).length+k<=k1/\dF B W lv (bZ e)/\Sits W g 57 #[.slice (some ⟨gp,op,none⟩) ts.length c,.int .i64 (k1:Nat),.int .i64 (0:Nat),.int .i64 (0:Nat)]) \/
 ∃ l j er kx,m=0/\out = .bad j er/\er≠0/\j<ts.length/\kx<ts.length/\l.length<=ts.length+1 - k/\dF B W lv l/\Sits W g 57 #[.slice (some ⟨gp,op,none⟩) ts.length c,.int .i64 (kx:Nat),.int .i64 (j:Nat),.int .i64 (er:Nat)]
theorem N8 {ts:List Lex.Tok} (hG:gM ts) (gp op c k oo:Nat) (ask:Bool) (w:World) (out:Out Ex) (hP:dK w (.slice (some ⟨gp,op,none⟩) ts.length c) ts) (hk:k<ts.length) (ho:oo<=12) (hx:Px ts ask (.ops oo 4) k out) (IP:BQ ts gp op c ask k) :
  Calls Tryz.prog 56 #[.agg #[.slice (some ⟨gp,op,none⟩) ts.length c,.int .i64 (k:Nat),.int .i64 (0:Nat),.int .i64 (0:Nat)],.int .i64 4,.bool ask,.int .i64 (oo:Nat)] w (bY (.slice (some ⟨gp,op,none⟩) ts.length c) ts.length (ts.length+1 - k) (out) w):=by
 have hn:ts.length<=5000:=by have:=hG.few;omega
 obtain ⟨HL,HA,HZ⟩:=iD w (some ⟨gp,op,none⟩) ts.length c k 0 0;have HK:=hid hk;have HN:=hid hn;have LW:=hid (fun W (hl:Below w.heap.size w W)=>IP oo out W ho (Nu hx) (hP.below hl) hk);clear hP hk hn ho hx IP;go_enter Tryz.func56,Tryz.ntmps56;go_upto_region 1 with (fail)
 change Code.wp _ _ _ _ (bM w (some ⟨gp,op,none⟩) ts.length c k 0 0);generalize bM w (some ⟨gp,op,none⟩) ts.length c k 0 0=w0 at HL HA HZ ⊢;generalize hgb:w.heap.size=gb at HA HZ ⊢;have di:=hid hgb;clear hgb;have a0:=ag HA.out;go_wp2_with fail
 refine (LW.out _ HL.out).mono ?_;rintro x w3 ⟨lv,l,u2,rfl,h1,h2,h3,h4,hb⟩;obtain ⟨k2,j2,e2,rfl⟩:=h1.cells;have dO:=hid h1;have h2:=h2.low HL.out.size;have HIT:=hid (⟨h2,h3,h4⟩:_/\_/\_);have HZ:=hid (HZ.out.below hb HZ.out.lt);have HL:=hid (HL.out.trans (hb.mono HL.out.size));clear h1 h2 h3 h4 hb a0;have z0:=ag HZ.out;have kX:=aL HZ.out;go_wp2_with fail
 refine oQ (oU.put HZ.out HL.out (by have:=di.out;omega) (.slice (some ⟨gp,op,none⟩) ts.length c) (k2) (j2) (e2)) ?_;intro W9 F;have HI0:=hid (F.out.i HIT.out.1);have s0:=ag F.out.s;exact bodyPost_ret (v:=.tuple #[lv,.agg #[.slice (some ⟨gp,op,none⟩) ts.length c,.int .i64 (k2:Nat),.int .i64 (j2:Nat),.int .i64 (e2:Nat)]]) (by simp [results,Tryz.results56,go_sem,s0]) rfl ⟨_,l,_,rfl,dO.out,HI0.out,HIT.out.2.1,HIT.out.2.2,F.out.l⟩
theorem zQ {ts:List Lex.Tok} (hG:gM ts) (gp op c k oo least:Nat) (ask:Bool) (w:World) (out:Out Ex) (hP:dK w (.slice (some ⟨gp,op,none⟩) ts.length c) ts) (hk:k<ts.length) (ho:oo<=12) (h1:1<=least) (h3:least<4) (hx:Px ts ask (.ops oo least) k out) (I0:tQ ts gp op c ask (least+1) k) (IH:∀ k',k<k' -> tQ ts gp op c ask (least+1) k') :
  Calls Tryz.prog 56 #[.agg #[.slice (some ⟨gp,op,none⟩) ts.length c,.int .i64 (k:Nat),.int .i64 (0:Nat),.int .i64 (0:Nat)],.int .i64 (least:Nat),.bool ask,.int .i64 (oo:Nat)] w (bY (.slice (some ⟨gp,op,none⟩) ts.length c) ts.length (ts.length+1 - k) (out) w):=by
 have hn:ts.length<=5000:=by have:=hG.few;omega
 obtain ⟨HL,HA,HZ⟩:=iD w (some ⟨gp,op,none⟩) ts.length c k 0 0;have HK:=hid hk;have HN:=hid hn;obtain ⟨sQ,hx1,hs1⟩:=KH hx;have HI0:=hid (show ∀ W,Below w.heap.size w W->Calls Tryz.prog 56 #[.agg #[.slice (some ⟨gp,op,none⟩) ts.length c,.int .i64 (k:Nat),.int .i64 (0:Nat),.int .i64 (0:Nat)],.int .i64 ((least:Int)+1),.bool ask,.int .i64 (oo:Nat)] W (bY (.slice (some ⟨gp,op,none⟩) ts.length c) ts.length (ts.length+1 - k) sQ W) from fun W hl=>I0 oo sQ W ho hx1 (hP.below hl) hk);have Ef:=hid (show ∀ k1 o2 W,k<k1+1->k1+1<ts.length->Px ts ask (.ops oo (least+1)) (k1+1) o2->Below w.heap.size w W->Calls Tryz.prog 56 #[.agg #[.slice (some ⟨gp,op,none⟩) ts.length c,.int .i64 ((k1:Int)+1),.int .i64 (0:Nat),.int .i64 (0:Nat)],.int .i64 ((least:Int)+1),.bool ask,.int .i64 (oo:Nat)] W (bY (.slice (some ⟨gp,op,none⟩) ts.length c) ts.length (ts.length+1 - (k1+1)) o2 W) from fun k1 o2 W h hk1 hx2 hl=>IH (k1+1) h oo o2 W ho hx2 (hP.below hl) hk1);have Bz:=hid (fun (k1:Nat) (W:World) (hk1:k1<ts.length) (hl:Below w.heap.size w W)=>bI _ ts k1 0 0 3 W (hP.below hl) (fun _=>hk1));have HSP:=hid hs1;have pX:=hid (fun e1 k1 (h:sQ = .ok e1 k1)=>And.intro (Jz hx1 e1 k1 h) (hx1.grows e1 k1 h));have HPX:=hid (fun e1 k1 o2 (hl:Px ts ask (.loop oo least e1) k1 o2)=>Da hl);have l4:((least:Int) == 4)=false:=by simp;omega
 have l5:(least:Int)<=4:=by omega
 have l0:(0:Int)<=(least:Int):=by omega
 have Ee:=hid hG;have Wv:=hid h1;clear hP hk hn ho h1 h3 hx hx1 hs1 I0 IH;go_enter Tryz.func56,Tryz.ntmps56;go_upto_region 1 with (fail)
 change Code.wp _ _ _ _ (bM w (some ⟨gp,op,none⟩) ts.length c k 0 0);generalize bM w (some ⟨gp,op,none⟩) ts.length c k 0 0=w0 at HL HA HZ ⊢;generalize hgb:w.heap.size=gb at HA HZ ⊢;have di:=hid hgb;clear hgb;have a0:=ag HA.out;go_wp2_with fail
 refine (HI0.out _ HL.out).mono ?_;rintro x w3 ⟨lv0,l,u2,rfl,h1,h2,h3,h4,hb⟩;obtain ⟨k2,j2,e2,rfl⟩:=h1.cells;have h2:=h2.low HL.out.size;have HZ:=hid (HZ.out.below hb HZ.out.lt);have HL:=hid (HL.out.trans (hb.mono HL.out.size));have Hy:Hid (gb+1<w3.heap.size):=hid HZ.out.lt;have hlow:=aO w3 (.cells #[.slice (some ⟨gp,op,none⟩) ts.length c,.int .i64 (k2:Nat),.int .i64 (j2:Nat),.int .i64 (e2:Nat)] 57);have h10:=Sits.new w3 57 #[.slice (some ⟨gp,op,none⟩) ts.length c,.int .i64 (k2:Nat),.int .i64 (j2:Nat),.int .i64 (e2:Nat)]
 have Jd:Hid (∃ m,Wu w.heap.size ts gp op c ask oo least k m out (w3.alloc (.cells #[.slice (some ⟨gp,op,none⟩) ts.length c,.int .i64 (k2:Nat),.int .i64 (j2:Nat),.int .i64 (e2:Nat)] 57)) w3.heap.size lv0):=hid (by
  rcases HSP.out with ⟨j,er,rfl,rfl⟩ | ⟨e1,k1,rfl,hlp,hst⟩
  ·obtain ⟨kx,he,ne,hj,hkx⟩:=h1
   injection he with he;injection he with he;injection he with _ he;injection he with he1 he;injection he with he2 he;injection he with Hw _;injection he1 with _ he1;injection he2 with _ he2;injection Hw with _ Hw;obtain rfl:k2=kx:=by omega
   obtain rfl:j2=j:=by omega
   obtain rfl:e2=er:=by omega
   exact ⟨0,.inr ⟨l,j2,e2,k2,rfl,rfl,ne,hj,hkx,h4,h2.below hlow,h10⟩⟩
  ·obtain ⟨he,hk1⟩:=h1
   injection he with he;injection he with he;injection he with _ he;injection he with he1 he;injection he with he2 he;injection he with Hw _;injection he1 with _ he1;injection he2 with _ he2;injection Hw with _ Hw;obtain rfl:k2=k1:=by omega
   obtain rfl:j2=0:=by omega
   obtain rfl:e2=0:=by omega
   obtain rfl:=h3 e1 k2 rfl;obtain ⟨s1,s2⟩:=pX.out e1 k2 rfl;simp only [Gl.pre,Gl.low] at s1 s2
   exact ⟨_,.inl ⟨e1,k2,rfl,s2,hk1,hlp,hst,by omega,h2.below hlow,h10⟩⟩)
 have HZ:=hid (HZ.out.below hlow HZ.out.lt);have HL:=hid (HL.out.trans (hlow.mono HL.out.size));clear h1 h2 h3 h4 hb h10 a0;go_upto_region 4 with (fail)
 change Code.wp _ _ _ _ (w3.alloc (.cells #[.slice (some ⟨gp,op,none⟩) ts.length c,.int .i64 (k2:Nat),.int .i64 (j2:Nat),.int .i64 (e2:Nat)] 57));generalize w3.alloc (.cells #[.slice (some ⟨gp,op,none⟩) ts.length c,.int .i64 (k2:Nat),.int .i64 (j2:Nat),.int .i64 (e2:Nat)] 57)=w4 at Jd HZ HL hlow ⊢;generalize w3.heap.size=g11 at Jd Hy hlow ⊢;clear hlow;obtain ⟨m,hil⟩:=Jd.out;have Jd:=hid hil;clear hil
 go_loopg [10] m (fun gg v10 wx=>Hid (Wu w.heap.size ts gp op c ask oo least k gg out wx g11 v10)/\Hid (Sits wx (gb+1) 57 #[.slice none 0 0,.int .i64 0,.int .i64 0,.int .i64 0])/\Hid (Below w.heap.size w wx))
 case atStart=>exact ⟨Jd,HZ,HL⟩
 case round =>
  obtain ⟨HI,HZ,HL⟩:=hrel;rcases HI.out with ⟨e,k1,rfl,hk2,hk1,hlp,hst,hln,JB,hbx⟩ | ⟨l,j,er,kx,rfl,rfl,ne,hj,hkx,hln,JB,hbx⟩
  ·have iW:=hid hbx
   have gX:=hid JB;have HKK:=hid (show k<k1/\k1<ts.length/\(bZ e).length+k<=k1/\ai (iH ts k1)<=least from ⟨hk2,hk1,hln,hst⟩);have HT:=hid (Bz.out k1 wr hk1 HL.out);have HST:=hid (show ∀ W,Calls Tryz.prog 89 #[.string (str (aZ ts 3 k1 0))] W fun e w'=>Made (.returned (.tuple #[.int .i64 (ai (iH ts k1):Nat),.int .u8 (iH ts k1:Nat)])) W e w' from fun W=>by have:=AY (aZ ts 3 k1 0) W;rwa [N7 Ee.out k1] at this);have ZU:=hid hlp;have k3:(k1:Int)<=5000:=by have:=HN.out;omega
   have k4:(0:Int)<=(k1:Int):=by omega
   clear hk2 hk1 hlp hst hln JB hbx HI;generalize str (aZ ts 3 k1 0)=S at HT HST;have y0:=ag iW.out;go_wp2_with fail
   refine HT.out.mono ?_;rintro x w5 ⟨rfl,hb⟩;have HZ:=hid (HZ.out.below hb HZ.out.lt);have iW:=hid (iW.out.below hb iW.out.lt);have HL:=hid (HL.out.trans (hb.mono HL.out.size));have gX:=hid (gX.out.below hb);clear hb HT y0;go_wp2_with fail
   refine (HST.out _).mono ?_;rintro x w6 ⟨rfl,hb⟩;have HZ:=hid (HZ.out.below hb HZ.out.lt);have iW:=hid (iW.out.below hb iW.out.lt);have HL:=hid (HL.out.trans (hb.mono HL.out.size));have gX:=hid (gX.out.below hb);clear hb HST;have QX:=iW;have y0:=ag iW.out;have L8:=aL iW.out;have z0:=ag HZ.out;have kX:=aL HZ.out;generalize hso:ai (iH ts k1)=so at HKK;generalize hq:iH ts k1=q;rcases HPX.out e k1 out ZU.out with ⟨h1,rfl⟩ | ⟨h1,r,k6,hx2,hx3⟩ | ⟨h1,j6,er6,hx2,rfl⟩
   ·have n1:((so:Int) == (least:Int))=false:=by simp;omega
    have n2:((so:Int) != (least:Int))=true:=by rw [bne,n1];rfl
    clear h1 hso hq;go_wp2_with fail
    go_region
    go_wp2_with fail
    refine oQ (oU.drew HZ.out HL.out (by have:=di.out;omega) (.slice (some ⟨gp,op,none⟩) ts.length c) (k1) (0) (0)) ?_;intro W9 F;have HI0:=hid (F.out.i gX.out);have s0:=ag F.out.s;exact bodyPost_ret (v:=.tuple #[u10,.agg #[.slice (some ⟨gp,op,none⟩) ts.length c,.int .i64 (k1:Nat),.int .i64 (0:Nat),.int .i64 (0:Nat)]]) (by simp [results,Tryz.results56,go_sem,s0]) rfl ⟨_,(bZ e),_,rfl,⟨rfl,HKK.out.2.1⟩,HI0.out,(fun a q h=>by injection h with h _;rw [h]),by have:=HKK.out;omega,F.out.l⟩
   ·obtain rfl:so=least:=by have:=HKK.out.2.2.2;omega
    have n1:((so:Int) == (so:Int))=true:=by simp
    have n2:((so:Int) != (so:Int))=false:=by rw [bne,n1];rfl
    rw [hso] at hx2;have hkn:k1+1<ts.length:=FH Ee.out HKK.out.2.1 (jV (by rw [hso];exact Wv.out));have NT:=hid hkn;have Ww:=hid (fun W hl=>Ef.out k1 (.ok r k6) W (by have:=HKK.out;omega) hkn hx2 hl);have HQ:=hid hq;have lh:=hid (zP hx2);have TL:=hid hx3;have Yp:=hid hso;clear h1 hso hq hx2 hkn hx3;obtain ⟨rl,dl,rfl,hll,hlf⟩:=gX.out;have wh:=hid (And.intro hll hlf);clear hll hlf gX;go_wp2_with fail
    have iW:=hid (iW.out.put 1 (.int .i64 ((k1:Int)+1)));have HZ:=hid (HZ.out.far (p:=⟨g11,1,none⟩) (by have:=Hy.out;simp;omega) (.int .i64 ((k1:Int)+1)));have HL:=hid (HL.out.setCell (p:=⟨g11,1,none⟩) (by have:=Hy.out;have:=di.out;simp;omega) (.int .i64 ((k1:Int)+1)));have gX:=hid (dF.off (show dF w.heap.size w6 (.slice rl (bZ e).length dl) (bZ e) from ⟨rl,dl,rfl,wh.out.1,wh.out.2⟩) QX.out ((aa.refl (fun b=>b=g11) w6).put (p:=⟨g11,1,none⟩) (.inl rfl) (.int .i64 ((k1:Int)+1))));change Calls _ _ _ (w6.setCell ⟨g11,1,none⟩ (.int .i64 ((k1:Int)+1))) _;generalize w6.setCell ⟨g11,1,none⟩ (.int .i64 ((k1:Int)+1))=w7 at iW HZ HL gX ⊢;clear y0 L8 z0 kX wh QX;refine (Ww.out _ HL.out).mono ?_;rintro x w8 ⟨ZV,l2,u3,rfl,h1,h2,h3,h4,hb⟩;obtain ⟨k7,j3,e3,rfl⟩:=h1.cells;obtain ⟨r2,d2,rfl,h2,_⟩:=h2;have dO:=hid h1;have HIT:=hid (⟨h3,h4⟩:_/\_);have HI2:=hid h2;have gX:=hid (gX.out.below hb);have HZ:=hid (HZ.out.below hb HZ.out.lt);have iW:=hid (iW.out.below hb iW.out.lt);have HL:=hid (HL.out.trans (hb.mono HL.out.size));have Gh:Hid (g11<w8.heap.size):=hid iW.out.lt;clear h1 h2 h3 h4 hb Ww;go_upto_region 9 with (fail)
    refine hA ?_;intro w9 hlow N9;have HZ:=hid (HZ.out.below hlow HZ.out.lt);have iW:=hid (iW.out.below hlow iW.out.lt);have HL:=hid (HL.out.trans (hlow.mono HL.out.size));have gX:=hid (gX.out.below hlow);have HI2:=hid (HI2.out.below hlow);generalize w8.heap.size=g15 at N9 Gh ⊢;clear hlow;have hfr:cz 166 6 w9.heap.size (w9.alloc (.cells #[.int .u8 5,.int .u8 (q:Nat),.int .u64 0,.int .u8 0,.int .u8 0,.int .u8 0] 166)) (some ⟨w9.heap.size,0,none⟩) 1 1 (oh ⟨5,q,0,0,0,0⟩):=vI rfl (Sits.new w9 _ _) (Nat.le_refl _);have Wx:=aO w9 (.cells #[.int .u8 5,.int .u8 (q:Nat),.int .u64 0,.int .u8 0,.int .u8 0,.int .u8 0] 166);obtain ⟨_,_,e9,Wy,_⟩:=gX.out;injection e9 with e9 ZW ZX;clear ZW;subst e9 ZX;have LY:=hid Wy;clear Wy;have Oa:=hid hfr;have Hz:=hid Wx;have uz:=hid (show (bZ e).length<=5000/\l2.length<=5001 from by have:=HKK.out;have:=HN.out;have:=HIT.out.2;omega);clear hfr Wx;go_wp2_with (at_builtin;refine ax vH rfl _ _ rfl (B:=w9.heap.size) (r:=some ⟨w9.heap.size,0,none⟩) (n:=1) (d:=1) (xs:=oh ⟨5,q,0,0,0,0⟩) rfl Oa.out (by simp) rl (bZ e).length dl (cellsOf oh (bZ e)) rfl (bO qg _) (LY.out.below Hz.out) (rM _) (by have:=uz.out;unfold maxLen;omega) (by have:=uz.out;omega) ?_)
    intro ZY d10 w10 H7 H9 zR zS;have Ob:=hid zS;have Dz:=hid (Hz.out.trans zR);clear H7 H9 zR zS;go_wp2_with (at_builtin;refine ax vH rfl _ _ rfl (B:=w9.heap.size) (r:=ZY) (n:=1+(bZ e).length) (d:=d10) (xs:=oh ⟨5,q,0,0,0,0⟩ ++ cellsOf oh (bZ e)) rfl Ob.out Dz.out.size r2 l2.length d2 (cellsOf oh l2) rfl (bO qg _) (HI2.out.below Dz.out) (rM _) (by have:=uz.out;unfold maxLen;omega) (by have:=uz.out;omega) ?_)
    intro Wz d11 Vm Ia Ib zT uA;have hb:=Dz.out.trans zT;have L9:=hid HL.out.size;have HZ:=hid (HZ.out.below hb HZ.out.lt);have iW:=hid (iW.out.below hb iW.out.lt);have N9:=hid (N9.out.below hb N9.out.lt);have HL:=hid (HL.out.trans (hb.mono HL.out.size))
    have gX:=hid (show dF w.heap.size Vm (.slice Wz (1+(bZ e).length+l2.length) d11) (⟨5,q,0,0,0,0⟩ :: (bZ e ++ l2)) from ⟨Wz,d11,by rw [List.length_cons,List.length_append];congr 1;omega,by
     rw [show cellsOf oh (⟨5,q,0,0,0,0⟩ :: (bZ e ++ l2))=(oh ⟨5,q,0,0,0,0⟩ ++ cellsOf oh (bZ e)) ++ cellsOf oh l2 by simp [cellsOf]]
     exact iU uA.own,fun g o s he=>Nat.le_trans L9.out (uA.fresh g o s he).1⟩)
    clear Ia Ib zT uA hb Ob Dz Oa Hz LY HI2 L9;have x0:=ag N9.out;have y0:=ag iW.out;have L8:=aL iW.out;go_wp2_with fail
    have hbx:=aA iW.out (.slice (some ⟨gp,op,none⟩) ts.length c) (.int .i64 (k7:Nat)) (.int .i64 (j3:Nat)) (.int .i64 (e3:Nat));have hz:=(((HZ.out.far (p:=⟨g11,0,none⟩) (by have:=Hy.out;simp;omega) (.slice (some ⟨gp,op,none⟩) ts.length c)).far (p:=⟨g11,1,none⟩) (by have:=Hy.out;simp;omega) (.int .i64 (k7:Nat))).far (p:=⟨g11,2,none⟩) (by have:=Hy.out;simp;omega) (.int .i64 (j3:Nat))).far (p:=⟨g11,3,none⟩) (by have:=Hy.out;simp;omega) (.int .i64 (e3:Nat));have hl:=aG HL.out (g:=g11) (by have:=Hy.out;have:=di.out;omega) (.slice (some ⟨gp,op,none⟩) ts.length c) (.int .i64 (k7:Nat)) (.int .i64 (j3:Nat)) (.int .i64 (e3:Nat));have hit:=dF.put iW.out gX.out (.slice (some ⟨gp,op,none⟩) ts.length c) (.int .i64 (k7:Nat)) (.int .i64 (j3:Nat)) (.int .i64 (e3:Nat));have HF:=hid (And.intro hbx (And.intro hz (And.intro hl hit)));clear hbx hz hl hit
    go_roundg (ts.length - k6)
    case measure=>have:=HKK.out;have:=lh.out r k6 rfl;omega
    case rel=>exact ⟨hid (by
     obtain ⟨e1,e2,e4,Vl⟩:=dO.out.nQ;subst e1 e2 e4;have hl2:=HIT.out.1 r k7 rfl;subst hl2;have hx:=TL.out;rw [HQ.out] at hx;obtain ⟨s1,s2,s3⟩:=lh.out r k7 rfl
     exact .inl ⟨.two q e r,k7,rfl,by have:=HKK.out;omega,Vl,hx,by omega,by show (⟨5,q,0,0,0,0⟩ :: (bZ e ++ bZ r)).length+k<=k7;rw [List.length_cons,List.length_append];have:=HKK.out;omega,HF.out.2.2.2,HF.out.1⟩),hid HF.out.2.1,hid HF.out.2.2.1⟩
   ·obtain rfl:so=least:=by have:=HKK.out.2.2.2;omega
    have n1:((so:Int) == (so:Int))=true:=by simp
    have n2:((so:Int) != (so:Int))=false:=by rw [bne,n1];rfl
    rw [hso] at hx2;have hkn:k1+1<ts.length:=FH Ee.out HKK.out.2.1 (jV (by rw [hso];exact Wv.out));have NT:=hid hkn;have Ww:=hid (fun W hl=>Ef.out k1 (.bad j6 er6) W (by have:=HKK.out;omega) hkn hx2 hl);have HQ:=hid hq;have lh:=hid (zP hx2);have Yp:=hid hso;clear h1 hso hq hx2 hkn;obtain ⟨rl,dl,rfl,hll,hlf⟩:=gX.out;have wh:=hid (And.intro hll hlf);clear hll hlf gX;go_wp2_with fail
    have iW:=hid (iW.out.put 1 (.int .i64 ((k1:Int)+1)));have HZ:=hid (HZ.out.far (p:=⟨g11,1,none⟩) (by have:=Hy.out;simp;omega) (.int .i64 ((k1:Int)+1)));have HL:=hid (HL.out.setCell (p:=⟨g11,1,none⟩) (by have:=Hy.out;have:=di.out;simp;omega) (.int .i64 ((k1:Int)+1)));have gX:=hid (dF.off (show dF w.heap.size w6 (.slice rl (bZ e).length dl) (bZ e) from ⟨rl,dl,rfl,wh.out.1,wh.out.2⟩) QX.out ((aa.refl (fun b=>b=g11) w6).put (p:=⟨g11,1,none⟩) (.inl rfl) (.int .i64 ((k1:Int)+1))));change Calls _ _ _ (w6.setCell ⟨g11,1,none⟩ (.int .i64 ((k1:Int)+1))) _;generalize w6.setCell ⟨g11,1,none⟩ (.int .i64 ((k1:Int)+1))=w7 at iW HZ HL gX ⊢;clear y0 L8 z0 kX wh QX;refine (Ww.out _ HL.out).mono ?_;rintro x w8 ⟨ZV,l2,u3,rfl,h1,h2,h3,h4,hb⟩;obtain ⟨k7,j3,e3,rfl⟩:=h1.cells;obtain ⟨r2,d2,rfl,h2,_⟩:=h2;have dO:=hid h1;have HIT:=hid (⟨h3,h4⟩:_/\_);have HI2:=hid h2;have gX:=hid (gX.out.below hb);have HZ:=hid (HZ.out.below hb HZ.out.lt);have iW:=hid (iW.out.below hb iW.out.lt);have HL:=hid (HL.out.trans (hb.mono HL.out.size));have Gh:Hid (g11<w8.heap.size):=hid iW.out.lt;clear h1 h2 h3 h4 hb Ww;go_upto_region 9 with (fail)
    refine hA ?_;intro w9 hlow N9;have HZ:=hid (HZ.out.below hlow HZ.out.lt);have iW:=hid (iW.out.below hlow iW.out.lt);have HL:=hid (HL.out.trans (hlow.mono HL.out.size));have gX:=hid (gX.out.below hlow);have HI2:=hid (HI2.out.below hlow);generalize w8.heap.size=g15 at N9 Gh ⊢;clear hlow;have hfr:cz 166 6 w9.heap.size (w9.alloc (.cells #[.int .u8 5,.int .u8 (q:Nat),.int .u64 0,.int .u8 0,.int .u8 0,.int .u8 0] 166)) (some ⟨w9.heap.size,0,none⟩) 1 1 (oh ⟨5,q,0,0,0,0⟩):=vI rfl (Sits.new w9 _ _) (Nat.le_refl _);have Wx:=aO w9 (.cells #[.int .u8 5,.int .u8 (q:Nat),.int .u64 0,.int .u8 0,.int .u8 0,.int .u8 0] 166);obtain ⟨_,_,e9,Wy,_⟩:=gX.out;injection e9 with e9 ZW ZX;clear ZW;subst e9 ZX;have LY:=hid Wy;clear Wy;have Oa:=hid hfr;have Hz:=hid Wx;have uz:=hid (show (bZ e).length<=5000/\l2.length<=5001 from by have:=HKK.out;have:=HN.out;have:=HIT.out.2;omega);clear hfr Wx;go_wp2_with (at_builtin;refine ax vH rfl _ _ rfl (B:=w9.heap.size) (r:=some ⟨w9.heap.size,0,none⟩) (n:=1) (d:=1) (xs:=oh ⟨5,q,0,0,0,0⟩) rfl Oa.out (by simp) rl (bZ e).length dl (cellsOf oh (bZ e)) rfl (bO qg _) (LY.out.below Hz.out) (rM _) (by have:=uz.out;unfold maxLen;omega) (by have:=uz.out;omega) ?_)
    intro ZY d10 w10 H7 H9 zR zS;have Ob:=hid zS;have Dz:=hid (Hz.out.trans zR);clear H7 H9 zR zS;go_wp2_with (at_builtin;refine ax vH rfl _ _ rfl (B:=w9.heap.size) (r:=ZY) (n:=1+(bZ e).length) (d:=d10) (xs:=oh ⟨5,q,0,0,0,0⟩ ++ cellsOf oh (bZ e)) rfl Ob.out Dz.out.size r2 l2.length d2 (cellsOf oh l2) rfl (bO qg _) (HI2.out.below Dz.out) (rM _) (by have:=uz.out;unfold maxLen;omega) (by have:=uz.out;omega) ?_)
    intro Wz d11 Vm Ia Ib zT uA;have hb:=Dz.out.trans zT;have L9:=hid HL.out.size;have HZ:=hid (HZ.out.below hb HZ.out.lt);have iW:=hid (iW.out.below hb iW.out.lt);have N9:=hid (N9.out.below hb N9.out.lt);have HL:=hid (HL.out.trans (hb.mono HL.out.size))
    have gX:=hid (show dF w.heap.size Vm (.slice Wz (1+(bZ e).length+l2.length) d11) (⟨5,q,0,0,0,0⟩ :: (bZ e ++ l2)) from ⟨Wz,d11,by rw [List.length_cons,List.length_append];congr 1;omega,by
     rw [show cellsOf oh (⟨5,q,0,0,0,0⟩ :: (bZ e ++ l2))=(oh ⟨5,q,0,0,0,0⟩ ++ cellsOf oh (bZ e)) ++ cellsOf oh l2 by simp [cellsOf]]
     exact iU uA.own,fun g o s he=>Nat.le_trans L9.out (uA.fresh g o s he).1⟩)
    clear Ia Ib zT uA hb Ob Dz Oa Hz LY HI2 L9;have x0:=ag N9.out;have y0:=ag iW.out;have L8:=aL iW.out;go_wp2_with fail
    have hbx:=aA iW.out (.slice (some ⟨gp,op,none⟩) ts.length c) (.int .i64 (k7:Nat)) (.int .i64 (j3:Nat)) (.int .i64 (e3:Nat));have hz:=(((HZ.out.far (p:=⟨g11,0,none⟩) (by have:=Hy.out;simp;omega) (.slice (some ⟨gp,op,none⟩) ts.length c)).far (p:=⟨g11,1,none⟩) (by have:=Hy.out;simp;omega) (.int .i64 (k7:Nat))).far (p:=⟨g11,2,none⟩) (by have:=Hy.out;simp;omega) (.int .i64 (j3:Nat))).far (p:=⟨g11,3,none⟩) (by have:=Hy.out;simp;omega) (.int .i64 (e3:Nat));have hl:=aG HL.out (g:=g11) (by have:=Hy.out;have:=di.out;omega) (.slice (some ⟨gp,op,none⟩) ts.length c) (.int .i64 (k7:Nat)) (.int .i64 (j3:Nat)) (.int .i64 (e3:Nat));have hit:=dF.put iW.out gX.out (.slice (some ⟨gp,op,none⟩) ts.length c) (.int .i64 (k7:Nat)) (.int .i64 (j3:Nat)) (.int .i64 (e3:Nat));have HF:=hid (And.intro hbx (And.intro hz (And.intro hl hit)));clear hbx hz hl hit
    go_roundg 0
    case measure=>have:=HKK.out;omega
    case rel=>exact ⟨hid (by
     obtain ⟨e1,e2,ne,hj,Vl⟩:=dO.out.mV;subst e1 e2
     exact .inr ⟨_,_,_,k7,rfl,rfl,ne,hj,Vl,by rw [List.length_cons,List.length_append];have:=HKK.out;have:=HIT.out.2;omega,HF.out.2.2.2,HF.out.1⟩),hid HF.out.2.1,hid HF.out.2.2.1⟩
  ·have iW:=hid hbx
   have gX:=hid JB;have HRR:=hid (show aP (.slice (some ⟨gp,op,none⟩) ts.length c) ts.length (.bad j er:Out Ex) (.agg #[.slice (some ⟨gp,op,none⟩) ts.length c,.int .i64 (kx:Nat),.int .i64 (j:Nat),.int .i64 (er:Nat)]) from ⟨kx,rfl,ne,hj,hkx⟩);have n1:((er:Int) == 0)=false:=by simp;omega
   have yu:=hid hln;clear ne hj hkx hln JB hbx HI;have y0:=ag iW.out;have z0:=ag HZ.out;have kX:=aL HZ.out;go_wp2_with fail
   go_region
   go_wp2_with fail
   refine oQ (oU.drew HZ.out HL.out (by have:=di.out;omega) (.slice (some ⟨gp,op,none⟩) ts.length c) (kx) (j) (er)) ?_;intro W9 F;have HI0:=hid (F.out.i gX.out);have s0:=ag F.out.s;exact bodyPost_ret (v:=.tuple #[u10,.agg #[.slice (some ⟨gp,op,none⟩) ts.length c,.int .i64 (kx:Nat),.int .i64 (j:Nat),.int .i64 (er:Nat)]]) (by simp [results,Tryz.results56,go_sem,s0]) rfl ⟨_,l,_,rfl,HRR.out,HI0.out,(fun _ _ h=>by cases h),yu.out,F.out.l⟩
end Go.Proofs.YtaanhmndeobgbaaGreatDoor.fT
namespace Go.Proofs.YtaanhmndeobgbaaGreatDoor.fT
open Go.RowKit Mem Go.Proofs.YtaanhmndeobgbaaGreatDoor.Expr Prog Go.Lib ae
open Go.Proofs.YtaanhmndeobgbaaGreatDoor.Row (Lay cellsOf bO dQ aO)
open Lex (Tok cO jA)
theorem QY {ts:List Lex.Tok} (hG:gM ts) (gp op c:Nat) (ask:Bool):∀ (m k:Nat),ts.length - k<=m->BQ ts gp op c ask k/\∀ least,1<=least->least<=4->tQ ts gp op c ask least k:=by
 intro m;induction m with
 | zero=>intro k hm;exact ⟨fun _ _ _ _ _ _ hk=>absurd hk (by omega),fun _ _ _ _ _ _ _ _ _ hk=>absurd hk (by omega)⟩
 | succ m ih =>
  intro k hm;by_cases hk:k<ts.length
  ·have IH:∀ k',k<k' -> BQ ts gp op c ask k' /\ ∀ least,1<=least->least<=4->tQ ts gp op c ask least k':=fun k' h=>ih k' (by omega)
   have hp:=NZ hG gp op c k ask (IH (k+1) (by omega)).1 ((IH (k+1) (by omega)).2 1 (by omega) (by omega));have h4:tQ ts gp op c ask 4 k:=fun oo out w ho hx hP hk=>N8 hG gp op c k oo ask w out hP hk ho hx hp
   have h3:tQ ts gp op c ask 3 k:=fun oo out w ho hx hP hk=>zQ hG gp op c k oo 3 ask w out hP hk ho (by omega) (by omega) hx h4 fun k' h=>(IH k' h).2 4 (by omega) (by omega)
   have h2:tQ ts gp op c ask 2 k:=fun oo out w ho hx hP hk=>zQ hG gp op c k oo 2 ask w out hP hk ho (by omega) (by omega) hx h3 fun k' h=>(IH k' h).2 3 (by omega) (by omega)
   have h1:tQ ts gp op c ask 1 k:=fun oo out w ho hx hP hk=>zQ hG gp op c k oo 1 ask w out hP hk ho (by omega) (by omega) hx h2 fun k' h=>(IH k' h).2 2 (by omega) (by omega)
   refine ⟨hp,fun least l1 l4=>?_⟩;obtain rfl | rfl | rfl | rfl:least=1 \/ least=2 \/ least=3 \/ least=4:=by omega
   ·exact h1
   ·exact h2
   ·exact h3
   ·exact h4
  ·exact ⟨fun _ _ _ _ _ _ hk'=>absurd hk' hk,fun _ _ _ _ _ _ _ _ _ hk'=>absurd hk' hk⟩
theorem Oc {ts:List Lex.Tok} (gp op c k j e b:Nat) (ask:Bool) (oo:Nat) (w:World) (hP:dK w (.slice (some ⟨gp,op,none⟩) ts.length c) ts) (he:e≠0) (hj:j<ts.length) (hk:k<ts.length) :
  Calls Tryz.prog 88 #[.agg #[.slice (some ⟨gp,op,none⟩) ts.length c,.int .i64 (k:Nat),.int .i64 (j:Nat),.int .i64 (e:Nat)],.bool ask,.int .i64 (oo:Nat)] w (bY (.slice (some ⟨gp,op,none⟩) ts.length c) ts.length b (.bad j e) w):=by
 obtain ⟨HL,HA,HZ⟩:=iD w (some ⟨gp,op,none⟩) ts.length c k j e
 have HT:=hid (show ∀ W,Below w.heap.size w W->Calls Tryz.prog 14 #[.agg #[.slice (some ⟨gp,op,none⟩) ts.length c,.int .i64 (k:Nat),.int .i64 (j:Nat),.int .i64 (e:Nat)],.int .u8 (3:Nat)] W fun x w'=>Made (.returned (.string ⟨#[]⟩)) W x w' from fun W hl=>by
  have h:=bI _ ts k j e 3 W (hP.below hl) (fun h=>absurd h he)
  rwa [show aZ ts 3 k e=[] from if_neg fun h=>he h.1] at h)
 have Ws:=hid (fun W=>NS (ts:=ts) (some ⟨gp,op,none⟩) c k j e b ask W he hj hk);clear hP hk hj he;go_enter Tryz.func88,Tryz.ntmps88;go_upto_region 1 with (fail)
 change Code.wp _ _ _ _ (bM w (some ⟨gp,op,none⟩) ts.length c k j e);generalize bM w (some ⟨gp,op,none⟩) ts.length c k j e=w0 at HL HA HZ ⊢;generalize hgb:w.heap.size=gb at HA HZ ⊢;have di:=hid hgb;clear hgb;have a0:=ag HA.out;go_wp2_with fail
 refine (HT.out _ HL.out).mono ?_;rintro x w1 ⟨rfl,hb⟩;have HA:=hid (HA.out.below hb HA.out.lt);have HZ:=hid (HZ.out.below hb HZ.out.lt);have HL:=hid (HL.out.trans (hb.mono HL.out.size));clear hb a0 HT;have a0:=ag HA.out;go_wp2_with fail
 refine (Ws.out _).mono ?_;rintro x w3 ⟨lv,l,u2,rfl,h1,h2,h3,h4,hb⟩;obtain ⟨k2,j2,e2,rfl⟩:=h1.cells;have h2:=h2.low HL.out.size;have dO:=hid h1;have HIT:=hid (⟨h2,h3,h4⟩:_/\_/\_);have HZ:=hid (HZ.out.below hb HZ.out.lt);have HL:=hid (HL.out.trans (hb.mono HL.out.size));clear h1 h2 h3 h4 hb a0;have z0:=ag HZ.out;have kX:=aL HZ.out;go_wp2_with fail
 refine oQ (oU.put HZ.out HL.out (by have:=di.out;omega) (.slice (some ⟨gp,op,none⟩) ts.length c) (k2) (j2) (e2)) ?_;intro W9 F;have HI0:=hid (F.out.i HIT.out.1);have s0:=ag F.out.s;exact bodyPost_ret (v:=.tuple #[lv,.agg #[.slice (some ⟨gp,op,none⟩) ts.length c,.int .i64 (k2:Nat),.int .i64 (j2:Nat),.int .i64 (e2:Nat)]]) (by simp [results,Tryz.results88,go_sem,s0]) rfl ⟨_,l,_,rfl,dO.out,HI0.out,HIT.out.2.1,HIT.out.2.2,F.out.l⟩
theorem Od {ts:List Lex.Tok} (gp op c k j e b:Nat) (ask:Bool) (oo:Nat) (w:World) (hP:dK w (.slice (some ⟨gp,op,none⟩) ts.length c) ts) (he:e≠0) (hj:j<ts.length) (hk:k<ts.length) :
  Calls Tryz.prog 56 #[.agg #[.slice (some ⟨gp,op,none⟩) ts.length c,.int .i64 (k:Nat),.int .i64 (j:Nat),.int .i64 (e:Nat)],.int .i64 4,.bool ask,.int .i64 (oo:Nat)] w (bY (.slice (some ⟨gp,op,none⟩) ts.length c) ts.length b (.bad j e) w):=by
 obtain ⟨HL,HA,HZ⟩:=iD w (some ⟨gp,op,none⟩) ts.length c k j e;have LW:=hid (fun W (hl:Below w.heap.size w W)=>Oc gp op c k j e b ask oo W (hP.below hl) he hj hk);clear hP hk hj he;go_enter Tryz.func56,Tryz.ntmps56;go_upto_region 1 with (fail)
 change Code.wp _ _ _ _ (bM w (some ⟨gp,op,none⟩) ts.length c k j e);generalize bM w (some ⟨gp,op,none⟩) ts.length c k j e=w0 at HL HA HZ ⊢;generalize hgb:w.heap.size=gb at HA HZ ⊢;have di:=hid hgb;clear hgb;have a0:=ag HA.out;go_wp2_with fail
 refine (LW.out _ HL.out).mono ?_;rintro x w3 ⟨lv,l,u2,rfl,h1,h2,h3,h4,hb⟩;obtain ⟨k2,j2,e2,rfl⟩:=h1.cells;have h2:=h2.low HL.out.size;have dO:=hid h1;have HIT:=hid (⟨h2,h3,h4⟩:_/\_/\_);have HZ:=hid (HZ.out.below hb HZ.out.lt);have HL:=hid (HL.out.trans (hb.mono HL.out.size));clear h1 h2 h3 h4 hb a0;have z0:=ag HZ.out;have kX:=aL HZ.out;go_wp2_with fail
 refine oQ (oU.put HZ.out HL.out (by have:=di.out;omega) (.slice (some ⟨gp,op,none⟩) ts.length c) (k2) (j2) (e2)) ?_;intro W9 F;have HI0:=hid (F.out.i HIT.out.1);have s0:=ag F.out.s;exact bodyPost_ret (v:=.tuple #[lv,.agg #[.slice (some ⟨gp,op,none⟩) ts.length c,.int .i64 (k2:Nat),.int .i64 (j2:Nat),.int .i64 (e2:Nat)]]) (by simp [results,Tryz.results56,go_sem,s0]) rfl ⟨_,l,_,rfl,dO.out,HI0.out,HIT.out.2.1,HIT.out.2.2,F.out.l⟩
theorem zU {ts:List Lex.Tok} (gp op c k j e b:Nat) (ask:Bool) (oo least:Nat) (h3:least<4) (I0:∀ W,dK W (.slice (some ⟨gp,op,none⟩) ts.length c) ts->Calls Tryz.prog 56 #[.agg #[.slice (some ⟨gp,op,none⟩) ts.length c,.int .i64 (k:Nat),.int .i64 (j:Nat),.int .i64 (e:Nat)],.int .i64 (least+1:Nat),.bool ask,.int .i64 (oo:Nat)] W (bY (.slice (some ⟨gp,op,none⟩) ts.length c) ts.length b (.bad j e) W)) (w:World) (hP:dK w (.slice (some ⟨gp,op,none⟩) ts.length c) ts) (he:e≠0) :
  Calls Tryz.prog 56 #[.agg #[.slice (some ⟨gp,op,none⟩) ts.length c,.int .i64 (k:Nat),.int .i64 (j:Nat),.int .i64 (e:Nat)],.int .i64 (least:Nat),.bool ask,.int .i64 (oo:Nat)] w (bY (.slice (some ⟨gp,op,none⟩) ts.length c) ts.length b (.bad j e) w):=by
 obtain ⟨HL,HA,HZ⟩:=iD w (some ⟨gp,op,none⟩) ts.length c k j e;have LW:=hid (show ∀ W,Below w.heap.size w W->Calls Tryz.prog 56 #[.agg #[.slice (some ⟨gp,op,none⟩) ts.length c,.int .i64 (k:Nat),.int .i64 (j:Nat),.int .i64 (e:Nat)],.int .i64 ((least:Int)+1),.bool ask,.int .i64 (oo:Nat)] W (bY (.slice (some ⟨gp,op,none⟩) ts.length c) ts.length b (.bad j e) W) from fun W hl=>I0 W (hP.below hl));have l4:((least:Int) == 4)=false:=by simp;omega
 have l5:(least:Int)<=4:=by omega
 have l0:(0:Int)<=(least:Int):=by omega
 have n1:((e:Int) == 0)=false:=by simp;omega
 clear hP he I0;go_enter Tryz.func56,Tryz.ntmps56;go_upto_region 1 with (fail)
 change Code.wp _ _ _ _ (bM w (some ⟨gp,op,none⟩) ts.length c k j e);generalize bM w (some ⟨gp,op,none⟩) ts.length c k j e=w0 at HL HA HZ ⊢;generalize hgb:w.heap.size=gb at HA HZ ⊢;have di:=hid hgb;clear hgb;have a0:=ag HA.out;go_wp2_with fail
 refine (LW.out _ HL.out).mono ?_;rintro x w3 ⟨lv,l,u2,rfl,h1,h2,h3,h4,hb⟩;obtain ⟨k2,j2,e2,rfl⟩:=h1.cells;obtain ⟨rfl,rfl,_,_,_⟩:=h1.mV;have h2:=h2.low HL.out.size;have dO:=hid h1;have HIT:=hid (⟨h3,h4⟩:_/\_);have HZ:=hid (HZ.out.below hb HZ.out.lt);have HL:=hid (HL.out.trans (hb.mono HL.out.size));have hlow:=aO w3 (.cells #[.slice (some ⟨gp,op,none⟩) ts.length c,.int .i64 (k2:Nat),.int .i64 (j2:Nat),.int .i64 (e2:Nat)] 57);have gD:=hid (Sits.new w3 57 #[.slice (some ⟨gp,op,none⟩) ts.length c,.int .i64 (k2:Nat),.int .i64 (j2:Nat),.int .i64 (e2:Nat)]);have gX:=hid (h2.below hlow);have HZ:=hid (HZ.out.below hlow HZ.out.lt);have HL:=hid (HL.out.trans (hlow.mono HL.out.size));clear h1 h2 h3 h4 hb a0;go_upto_region 4 with (fail)
 change Code.wp _ _ _ _ (w3.alloc (.cells #[.slice (some ⟨gp,op,none⟩) ts.length c,.int .i64 (k2:Nat),.int .i64 (j2:Nat),.int .i64 (e2:Nat)] 57));generalize w3.alloc (.cells #[.slice (some ⟨gp,op,none⟩) ts.length c,.int .i64 (k2:Nat),.int .i64 (j2:Nat),.int .i64 (e2:Nat)] 57)=w4 at gD gX HZ HL hlow ⊢;generalize w3.heap.size=g11 at gD hlow ⊢;clear hlow
 go_loopg [10] 0 (fun gg v10 wx=>(gg=0/\v10=lv)/\Hid (Sits wx g11 57 #[.slice (some ⟨gp,op,none⟩) ts.length c,.int .i64 (k2:Nat),.int .i64 (j2:Nat),.int .i64 (e2:Nat)])/\Hid (Sits wx (gb+1) 57 #[.slice none 0 0,.int .i64 0,.int .i64 0,.int .i64 0])/\Hid (dF w.heap.size wx lv l)/\Hid (Below w.heap.size w wx))
 case atStart=>exact ⟨⟨rfl,rfl⟩,gD,HZ,gX,HL⟩
 case round =>
  obtain ⟨⟨rfl,rfl⟩,gD,HZ,gX,HL⟩:=hrel;have y0:=ag gD.out;have z0:=ag HZ.out;have kX:=aL HZ.out;go_wp2_with fail
  go_region
  go_wp2_with fail
  refine oQ (oU.drew HZ.out HL.out (by have:=di.out;omega) (.slice (some ⟨gp,op,none⟩) ts.length c) (k2) (j2) (e2)) ?_;intro W9 F;have HI0:=hid (F.out.i gX.out);have s0:=ag F.out.s;exact bodyPost_ret (v:=.tuple #[u10,.agg #[.slice (some ⟨gp,op,none⟩) ts.length c,.int .i64 (k2:Nat),.int .i64 (j2:Nat),.int .i64 (e2:Nat)]]) (by simp [results,Tryz.results56,go_sem,s0]) rfl ⟨_,l,_,rfl,dO.out,HI0.out,HIT.out.1,HIT.out.2,F.out.l⟩
theorem QZ {ts:List Lex.Tok} (gp op c k j e b:Nat) (ask:Bool) (oo:Nat) (w:World) (hP:dK w (.slice (some ⟨gp,op,none⟩) ts.length c) ts) (he:e≠0) (hj:j<ts.length) (hk:k<ts.length) :
  Calls Tryz.prog 56 #[.agg #[.slice (some ⟨gp,op,none⟩) ts.length c,.int .i64 (k:Nat),.int .i64 (j:Nat),.int .i64 (e:Nat)],.int .i64 (1:Nat),.bool ask,.int .i64 (oo:Nat)] w (bY (.slice (some ⟨gp,op,none⟩) ts.length c) ts.length b (.bad j e) w) :=
 zU gp op c k j e b ask oo 1 (by omega) (fun W hW=>zU gp op c k j e b ask oo 2 (by omega) (fun W hW=>zU gp op c k j e b ask oo 3 (by omega) (fun W hW=>Od gp op c k j e b ask oo W hW he hj hk) W hW he) W hW he) w hP he
theorem Oe {ts:List Lex.Tok} (gp op c k j e b:Nat) (ask:Bool) (w:World) (hP:dK w (.slice (some ⟨gp,op,none⟩) ts.length c) ts) (he:e≠0) (hj:j<ts.length) (hk:k<ts.length) :
  Calls Tryz.prog 20 #[.agg #[.slice (some ⟨gp,op,none⟩) ts.length c,.int .i64 (k:Nat),.int .i64 (j:Nat),.int .i64 (e:Nat)],.bool ask] w (bY (.slice (some ⟨gp,op,none⟩) ts.length c) ts.length b (.bad j e) w):=by
 obtain ⟨HL,HA,HZ⟩:=iD w (some ⟨gp,op,none⟩) ts.length c k j e;have LW:=hid (show ∀ W,Below w.heap.size w W->Calls Tryz.prog 56 #[.agg #[.slice (some ⟨gp,op,none⟩) ts.length c,.int .i64 (k:Nat),.int .i64 (j:Nat),.int .i64 (e:Nat)],.int .i64 1,.bool ask,.int .i64 0] W (bY (.slice (some ⟨gp,op,none⟩) ts.length c) ts.length b (.bad j e) W) from fun W hl=>QZ gp op c k j e b ask 0 W (hP.below hl) he hj hk);have n1:((e:Int) == 0)=false:=by simp;omega
 have n2:((e:Int) != 0)=true:=by rw [bne,n1];rfl
 clear hP hk hj he;go_enter Tryz.func20,Tryz.ntmps20;go_upto_region 1 with (fail)
 change Code.wp _ _ _ _ (bM w (some ⟨gp,op,none⟩) ts.length c k j e);generalize bM w (some ⟨gp,op,none⟩) ts.length c k j e=w0 at HL HA HZ ⊢;generalize hgb:w.heap.size=gb at HA HZ ⊢;have di:=hid hgb;clear hgb;have a0:=ag HA.out;go_wp2_with fail
 refine (LW.out _ HL.out).mono ?_;rintro x w3 ⟨lv,l,u2,rfl,h1,h2,h3,h4,hb⟩;obtain ⟨k2,j2,e2,rfl⟩:=h1.cells;obtain ⟨rfl,rfl,_,_,_⟩:=h1.mV;have dO:=hid h1;have HZ:=hid (HZ.out.below hb HZ.out.lt);have HL:=hid (HL.out.trans (hb.mono HL.out.size));have hlow:=aO w3 (.cells #[.slice (some ⟨gp,op,none⟩) ts.length c,.int .i64 (k2:Nat),.int .i64 (j2:Nat),.int .i64 (e2:Nat)] 57);have gD:=hid (Sits.new w3 57 #[.slice (some ⟨gp,op,none⟩) ts.length c,.int .i64 (k2:Nat),.int .i64 (j2:Nat),.int .i64 (e2:Nat)]);have HZ:=hid (HZ.out.below hlow HZ.out.lt);have HL:=hid (HL.out.trans (hlow.mono HL.out.size));clear h1 h2 h3 h4 hb a0;go_upto_region 3 with (fail)
 change Code.wp _ _ _ _ (w3.alloc (.cells #[.slice (some ⟨gp,op,none⟩) ts.length c,.int .i64 (k2:Nat),.int .i64 (j2:Nat),.int .i64 (e2:Nat)] 57));generalize w3.alloc (.cells #[.slice (some ⟨gp,op,none⟩) ts.length c,.int .i64 (k2:Nat),.int .i64 (j2:Nat),.int .i64 (e2:Nat)] 57)=w4 at gD HZ HL hlow ⊢;generalize w3.heap.size=g8 at gD hlow ⊢;clear hlow;have y0:=ag gD.out;have z0:=ag HZ.out;have kX:=aL HZ.out;go_wp2_with fail
 go_region
 go_wp2_with fail
 refine oQ (oU.drew HZ.out HL.out (by have:=di.out;omega) (.slice (some ⟨gp,op,none⟩) ts.length c) (k2) (j2) (e2)) ?_;intro W9 F;have s0:=ag F.out.s;exact bodyPost_ret (v:=.tuple #[.slice none 0 0,.agg #[.slice (some ⟨gp,op,none⟩) ts.length c,.int .i64 (k2:Nat),.int .i64 (j2:Nat),.int .i64 (e2:Nat)]]) (by simp [results,Tryz.results20,go_sem,s0]) rfl ⟨_,[],_,rfl,dO.out,dF.nil _ _,(fun _ _ h=>by cases h),Nat.zero_le _,F.out.l⟩
theorem Og {ts:List Lex.Tok} (hG:gM ts) (gp op c k:Nat) (ask:Bool) (w:World) (hP:dK w (.slice (some ⟨gp,op,none⟩) ts.length c) ts) (hk:k<ts.length) :
  Calls Tryz.prog 20 #[.agg #[.slice (some ⟨gp,op,none⟩) ts.length c,.int .i64 (k:Nat),.int .i64 (0:Nat),.int .i64 (0:Nat)],.bool ask] w (bY (.slice (some ⟨gp,op,none⟩) ts.length c) ts.length (ts.length+1) (bG ts ask k) w):=by
 obtain ⟨HL,HA,HZ⟩:=iD w (some ⟨gp,op,none⟩) ts.length c k 0 0;obtain ⟨out,hx,hin⟩:=((vo (ask:=ask) hG.good (ts.length - k) k (Nat.le_refl _) hk).2 0 1 (by omega) (by omega))
 have he:bG ts ask k=pO k out:=mF hx;rw [he];have Yr:=hid (fun e k1 (h:out = .ok e k1)=>(Sq hG hx (show (1:Nat)<=1 from Nat.le_refl 1) e k1 h).1);have HLV:=hid (show ∀ W,Below w.heap.size w W->Calls Tryz.prog 56 #[.agg #[.slice (some ⟨gp,op,none⟩) ts.length c,.int .i64 (k:Nat),.int .i64 (0:Nat),.int .i64 (0:Nat)],.int .i64 1,.bool ask,.int .i64 0] W (bY (.slice (some ⟨gp,op,none⟩) ts.length c) ts.length (ts.length+1 - k) out W) from fun W hl=>(QY hG gp op c ask _ k (Nat.le_refl _)).2 1 (by omega) (by omega) 0 out W (by omega) hx (hP.below hl) hk);have hn:ts.length<=5000:=by have:=hG.few;omega
 have HN:=hid hn;have HK:=hid hk;clear hP hk he hx hin hn;go_enter Tryz.func20,Tryz.ntmps20;go_upto_region 1 with (fail)
 change Code.wp _ _ _ _ (bM w (some ⟨gp,op,none⟩) ts.length c k 0 0);generalize bM w (some ⟨gp,op,none⟩) ts.length c k 0 0=w0 at HL HA HZ ⊢;generalize hgb:w.heap.size=gb at HA HZ ⊢;have di:=hid hgb;clear hgb;have a0:=ag HA.out;go_wp2_with fail
 refine (HLV.out _ HL.out).mono ?_;rintro x w3 ⟨lv,l,u2,rfl,h1,h2,h3,h4,hb⟩;obtain ⟨k2,j2,e2,rfl⟩:=h1.cells;have h2:=h2.low HL.out.size;obtain ⟨rl,dl,rfl,h2,h2f⟩:=h2;have H2F:=hid h2f;clear h2f;have dO:=hid h1;have HIT:=hid (⟨h3,h4⟩:_/\_);have HZ:=hid (HZ.out.below hb HZ.out.lt);have HL:=hid (HL.out.trans (hb.mono HL.out.size));have hlow:=aO w3 (.cells #[.slice (some ⟨gp,op,none⟩) ts.length c,.int .i64 (k2:Nat),.int .i64 (j2:Nat),.int .i64 (e2:Nat)] 57);have gD:=hid (Sits.new w3 57 #[.slice (some ⟨gp,op,none⟩) ts.length c,.int .i64 (k2:Nat),.int .i64 (j2:Nat),.int .i64 (e2:Nat)]);have gX:=hid (h2.below hlow);have HZ:=hid (HZ.out.below hlow HZ.out.lt);have HL:=hid (HL.out.trans (hlow.mono HL.out.size));clear h1 h2 h3 h4 hb a0;go_upto_region 3 with (fail)
 change Code.wp _ _ _ _ (w3.alloc (.cells #[.slice (some ⟨gp,op,none⟩) ts.length c,.int .i64 (k2:Nat),.int .i64 (j2:Nat),.int .i64 (e2:Nat)] 57));generalize w3.alloc (.cells #[.slice (some ⟨gp,op,none⟩) ts.length c,.int .i64 (k2:Nat),.int .i64 (j2:Nat),.int .i64 (e2:Nat)] 57)=w4 at gD HZ HL gX hlow ⊢;generalize w3.heap.size=g8 at gD hlow ⊢;clear hlow;cases out with
 | bad j1 e1 =>
  obtain ⟨rfl,rfl,ne,_,_⟩:=dO.out.mV;have n1:((e2:Int) == 0)=false:=by simp;omega
  have n2:((e2:Int) != 0)=true:=by rw [bne,n1];rfl
  clear ne;have y0:=ag gD.out;have z0:=ag HZ.out;have kX:=aL HZ.out;go_wp2_with fail
  go_region
  go_wp2_with fail
  refine oQ (oU.drew HZ.out HL.out (by have:=di.out;omega) (.slice (some ⟨gp,op,none⟩) ts.length c) (k2) (j2) (e2)) ?_;intro W9 F;have s0:=ag F.out.s;exact bodyPost_ret (v:=.tuple #[.slice none 0 0,.agg #[.slice (some ⟨gp,op,none⟩) ts.length c,.int .i64 (k2:Nat),.int .i64 (j2:Nat),.int .i64 (e2:Nat)]]) (by simp [results,Tryz.results20,go_sem,s0]) rfl ⟨_,[],_,rfl,dO.out,dF.nil _ _,(fun _ _ h=>by cases h),Nat.zero_le _,F.out.l⟩
 | ok e k1 =>
  obtain ⟨rfl,rfl,rfl,hk1⟩:=dO.out.nQ;have hl:=HIT.out.1 e k2 rfl;subst hl;have hsp:=NA e (bZ e) 0 (Yr.out e k2 rfl) (Part.all _)
  have qF:=hid (show ∀ W,Below w4.heap.size w4 W->Calls Tryz.prog 57 #[.slice rl (bZ e).length dl,.int .i64 0] W fun x w'=>Made (.returned (.tuple #[.int .i64 ((bZ e).length:Nat),.int .i64 (e.depth:Nat)])) W x w' from fun W hl=>by
   have h:=I9 (bZ e) ((bZ e).length+1) 0 (.slice rl (bZ e).length dl) W (dF.row (dF.below (B:=0) ⟨rl,dl,rfl,gX.out,fun _ _ _ _=>Nat.zero_le _⟩ hl) (by have:=HIT.out.2;have:=HN.out;omega)) (by omega);rw [I6 hsp _ (by omega),Nat.zero_add] at h
   exact h)
  have rz:=hid hk1;clear hsp hk1;have y0:=ag gD.out;go_wp2_with fail
  refine (qF.out _ (Below.refl _ _)).mono ?_;rintro x w5 ⟨rfl,hb⟩;have gD:=hid (show Sits w5 g8 57 #[.slice (some ⟨gp,op,none⟩) ts.length c,.int .i64 (k2:Nat),.int .i64 (0:Nat),.int .i64 (0:Nat)] from gD.out.below hb gD.out.lt);have HZ:=hid (HZ.out.below hb HZ.out.lt);have HL:=hid (HL.out.trans (hb.mono HL.out.size));have gX:=hid (gX.out.below hb);clear hb qF y0;have y0:=ag gD.out;have z0:=ag HZ.out;have kX:=aL HZ.out;by_cases hd:12<e.depth
  ·have d1:(12:Int)<(e.depth:Int):=by omega
   have hE:pO k (.ok e k2) = .bad k 4:=if_pos hd;have HE:=hid hE;have tO:=hid (show ∀ W,Calls Tryz.prog 17 #[.agg #[.slice (some ⟨gp,op,none⟩) ts.length c,.int .i64 (k2:Nat),.int .i64 0,.int .i64 0],.int .i64 (k:Nat),.int .i64 4] W (Made (.returned (.agg #[.slice (some ⟨gp,op,none⟩) ts.length c,.int .i64 (k2:Nat),.int .i64 (k:Nat),.int .i64 4])) W) from fun W=>fZ (some ⟨gp,op,none⟩) ts.length c k2 0 0 k 4 W);generalize e.depth=de at d1;clear hd hE;go_wp2_with fail
   refine (tO.out _).mono ?_;rintro x w6 ⟨rfl,hb⟩;have HZ:=hid (HZ.out.below hb HZ.out.lt);have HL:=hid (HL.out.trans (hb.mono HL.out.size));clear hb y0 z0 kX;have z0:=ag HZ.out;have kX:=aL HZ.out;go_wp2_with fail
   refine oQ (oU.put HZ.out HL.out (by have:=di.out;omega) (.slice (some ⟨gp,op,none⟩) ts.length c) (k2) (k) (4)) ?_;intro W9 F;have s0:=ag F.out.s;exact bodyPost_ret (v:=.tuple #[.slice none 0 0,.agg #[.slice (some ⟨gp,op,none⟩) ts.length c,.int .i64 (k2:Nat),.int .i64 (k:Nat),.int .i64 (4:Nat)]]) (by simp [results,Tryz.results20,go_sem,s0]) rfl ⟨_,[],_,rfl,(by rw [HE.out];exact ⟨k2,rfl,by decide,HK.out,rz.out⟩),dF.nil _ _,(fun _ _ h=>by rw [HE.out] at h;cases h),Nat.zero_le _,F.out.l⟩
  ·have d1:¬ (12:Int)<(e.depth:Int):=by omega
   have hE:pO k (.ok e k2) = .ok e k2:=if_neg hd;have HE:=hid hE;generalize e.depth=de at d1;clear hd hE;go_wp2_with fail
   go_region
   go_wp2_with fail
   have hs:=(aA HZ.out (.slice (some ⟨gp,op,none⟩) ts.length c) (.int .i64 (k2:Nat)) (.int .i64 (0:Nat)) (.int .i64 (0:Nat))).drew;have hl:=(aG HL.out (g:=(gb+1)) (by have:=di.out;omega) (.slice (some ⟨gp,op,none⟩) ts.length c) (.int .i64 (k2:Nat)) (.int .i64 (0:Nat)) (.int .i64 (0:Nat))).drew;have iI:dF _ (World.drew <| aF w5 (gb+1) (.slice (some ⟨gp,op,none⟩) ts.length c) (.int .i64 (k2:Nat)) (.int .i64 (0:Nat)) (.int .i64 (0:Nat))) (.slice rl (bZ e).length dl) (bZ e):=dF.put HZ.out ⟨rl,dl,rfl,gX.out,H2F.out⟩ _ _ _ _;change bodyPost _ _ _ _ _ (World.drew <| aF w5 (gb+1) (.slice (some ⟨gp,op,none⟩) ts.length c) (.int .i64 (k2:Nat)) (.int .i64 (0:Nat)) (.int .i64 (0:Nat)));change Sits (World.drew <| aF w5 (gb+1) (.slice (some ⟨gp,op,none⟩) ts.length c) (.int .i64 (k2:Nat)) (.int .i64 (0:Nat)) (.int .i64 (0:Nat))) _ _ _ at hs;generalize World.drew (aF w5 (gb+1) (.slice (some ⟨gp,op,none⟩) ts.length c) (.int .i64 (k2:Nat)) (.int .i64 (0:Nat)) (.int .i64 (0:Nat)))=W9 at hs hl iI ⊢;obtain ⟨s0,s1,s2,s3,_⟩:=ag hs;have HI0:=hid iI;have HF:=hid hl;clear hs hl iI;exact bodyPost_ret (v:=.tuple #[.slice rl (bZ e).length dl,.agg #[.slice (some ⟨gp,op,none⟩) ts.length c,.int .i64 (k2:Nat),.int .i64 (0:Nat),.int .i64 (0:Nat)]]) (by simp [results,Tryz.results20,go_sem,s0,s1,s2,s3]) rfl ⟨_,bZ e,_,rfl,(by rw [HE.out];exact ⟨rfl,rz.out⟩),HI0.out,(fun a q h=>by rw [HE.out] at h;injection h with h _;rw [h]),by have:=HIT.out.2;omega,HF.out⟩
theorem kJ {α:Type} {v:Value} {ts:List Lex.Tok} {o:Out α} {u:Value} (hG:gM ts) (ask:Bool) (w:World) (hP:dK w v ts) (hR:aP v ts.length o u) :
  Calls Tryz.prog 20 #[u,.bool ask] w (bY v ts.length (ts.length+1) (o.bind fun _ k=>bG ts ask k) w):=by
 obtain ⟨gp,op,c,rfl,_,_⟩:=hP.at_;cases o with
 | ok a k =>
  obtain ⟨rfl,hk⟩:=hR;exact Og hG gp op c k ask w hP hk
 | bad j e =>
  obtain ⟨k,rfl,he,hj,hk⟩:=hR;exact Oe gp op c k j e (ts.length+1) ask w hP he hj hk
end Go.Proofs.YtaanhmndeobgbaaGreatDoor.fT
