/- Part 33 of the proof: what is used of the texts PrsT, PrsU. -/
import Derived.Test.YtaanhmndeobgbaaGreatDoorGD1
import Derived.Test.YtaanhmndeobgbaaGreatDoorGB8
set_option maxRecDepth 100000
set_option maxHeartbeats 4000000
namespace Go.Proofs.YtaanhmndeobgbaaGreatDoor.fT
open Go.RowKit Mem Go.Proofs.YtaanhmndeobgbaaGreatDoor.Expr Prog
open Lex (Tok jA cO iO)
section
variable {gR gp cap : Nat} {ts : List Lex.Tok}
theorem zY {B:Nat} {w w':World} {q:az} {v:Value} {k:Nat} (h:mW B w q v) (hr:Rd w gR gp cap ts k) (hB:gR<B) (hk:aa (fun x=>x=gR) w w'):mW B w' q v:=by
 have hol:v.ownBlock≠some gR:=by
  obtain ⟨cs,h1,_⟩:=h;intro e;rcases h1.2 with ⟨rfl,_⟩ | ⟨g',cap,cur,rfl,hg,hh,_⟩
  ·simp [Value.ownBlock] at e
  ·have:g' = gR:=by simpa [Value.ownBlock] using e
   omega
 obtain ⟨cs,h1,h2⟩:=h;have hs:=hr.stable hk;refine ⟨cs,h1.kept (row:=some gR) ⟨hk.os,hk.tape,hk.output,hk.size,fun k hk' hne=>hk.block k hk' (fun e=>hne (by rw [e]))⟩ (.inr hol),(h2.keep hs fun g hg j u hu=>?_).wider fun g ⟨g1,g2,g3⟩=>⟨g1,Nat.lt_of_lt_of_le g2 hk.size,g3⟩⟩;rw [World.cell?_of_block (hk.block g hg.2.1 (fun e=>by have:=hg.1;omega))];exact hu
theorem DJ {X:Nat->Prop} {w W W':World} {row:Option Nat} (h:aa X w W) (hg:W.grownBy W' row) (hr:∀ g,row=some g->w.heap.size<=g):aa X w W' :=
 ⟨hg.os.trans h.os,hg.tape.trans h.tape,hg.output.trans h.output,Nat.le_trans h.size hg.size,fun b hb hn=>(hg.block b (Nat.lt_of_lt_of_le hb h.size) (fun e=>by have:=hr b e.symm;omega)).trans (h.block b hb hn)⟩
theorem Rd.grown {w W W':World} {k0 k:Nat} {row:Option Nat} (h0:Rd w gR gp cap ts k0) (h:Rd W gR gp cap ts k) (hK:aa (fun x=>x=gR) w W') (hg:W.grownBy W' row) (hr:∀ g,row=some g->w.heap.size<=g):Rd W' gR gp cap ts k:=by
 have Yc:gp<w.heap.size:=World.block_lt_of_cell? _ _ (h0.at h0.lt).1;have Ux:gp<W.heap.size:=World.block_lt_of_cell? _ _ (h.at h.lt).1;refine ⟨h.box.grown hg (fun e=>by have:=hr gR e;have:=h0.box.lt;omega),fun j i u hj hu=>?_,h.lt,h.cap,h.few,h.far,h.good,h0.Fb hK⟩;rw [World.cell?_of_block (hg.block gp Ux (fun e=>by have:=hr gp e.symm;omega))];exact h.row j i u hj hu
theorem xY {d k:Nat} {q:az} {out:Out az} (h:Bx ts (.more d q) k out):(aj ts k=[125]/\out = .ok q (k+1)) \/ (aj ts k ≠ [125]/\∃ o1,Bx ts (.stmt d) k o1 /\
  ((∃ j er,o1 = .bad j er/\out = .bad j er) \/ ∃ m t e k1,o1 = .ok (.cons m t e .nil) k1/\Bx ts (.more d (q.snoc m t e)) k1 out)):=by
 cases h with
 | close h1=>exact .inl ⟨h1,rfl⟩
 | step h1 h2 h3=>exact .inr ⟨h1,_,h2,.inr ⟨_,_,_,_,rfl,h3⟩⟩
 | nN h1 h2=>exact .inr ⟨h1,_,h2,.inl ⟨_,_,rfl,rfl⟩⟩
theorem vK {d k:Nat} {out:Out az} (h:Bx ts (.block d) k out):(aj ts k ≠ [123]/\out = .bad k 3) \/ (aj ts k=[123]/\8<d/\out = .bad k 4) \/ (aj ts k=[123]/\d<=8/\Bx ts (.more d .nil) (k+1) out):=by
 cases h with
 | none h1=>exact .inl ⟨h1,rfl⟩
 | deep h1 h2=>exact .inr (.inl ⟨h1,h2,rfl⟩)
 | block h1 h2 h3=>exact .inr (.inr ⟨h1,h2,h3⟩)
theorem Oy (hp:gM ts) (k:Nat) (IS:∀ k',k<k' -> Ou gR gp cap ts k'):DI gR gp cap ts k:=by
 intro d out w hd hx h;obtain ⟨i0,hi0,hz0,hz1,hz2⟩:=info_parts Ol;have HP:=Lib.hid hp;have HX:=Lib.hid hx;have Au:=Lib.hid h;have HIS:=Lib.hid IS;have Jf:=Lib.hid (show gp<w.heap.size from World.block_lt_of_cell? _ _ (h.at h.lt).1);have Ar:=Lib.hid (show gR<w.heap.size from h.box.lt);have HN:=Lib.hid (je h);have Yv:=Lib.hid (fun W=>fw (tk ts k) 4 W);have wy:=Lib.hid (fun W (hr:Rd W gR gp cap ts k)=>(fA hr [123] (by simp):Calls _ _ #[_,.string (str [123])] W _));have HHC:=Lib.hid (fun k2 W (hr:Rd W gR gp cap ts k2)=>(lU hr [125] (by simp):Calls _ _ #[_,.string (str [125])] W _));have dd:(d:Int)<=9:=by omega
 have d0:(0:Int)<=(d:Int):=by omega
 unfold pc at Yv;clear h hp hx IS hd;go_enter Tryz.func44,Tryz.ntmps44;go_wp2_with fail
 refine HN.out.mono ?_;rintro e w1 ⟨rfl,hb⟩;have hz:=Sits.new w1 99 ay;have HZ:=Lib.hid hz;have hkk:=bK (w1.alloc (.cells ay 99)) w1.heap.size (pc (tk ts k));have hs:Sits ((w1.alloc (.cells ay 99)).setRow w1.heap.size (pc (tk ts k))) w1.heap.size 99 (pc (tk ts k)):=setRow_heap _ _ _ _ _ _ hz;have xN:Below w1.heap.size w1 ((w1.alloc (.cells ay 99)).setRow w1.heap.size (pc (tk ts k))):=behind ((Below.refl _ _).alloc (Nat.le_refl _) _) hkk (by simp) (fun x e=>by rw [e];exact Nat.le_refl _);have hlow:=hb.trans (xN.mono hb.size);have fH:=Lib.hid (show gR≠w1.heap.size by have:=hb.size;have:=Ar.out;omega);clear hz hkk xN hb;go_upto_region 2 with (refine wpList_store_row rfl 99 _ _ rfl w1.heap.size (pc (tk ts k)) rfl rfl 99 ay HZ.out jq rfl (jr _) ?_)
 change Code.wp _ _ _ _ ((w1.alloc (.cells ay 99)).setRow w1.heap.size (pc (tk ts k)));generalize (w1.alloc (.cells ay 99)).setRow w1.heap.size (pc (tk ts k))=W3 at hs hlow ⊢;generalize w1.heap.size=g0 at hs fH ⊢;have HS:=Lib.hid hs;have lQ:=Lib.hid hlow;have HR:=Lib.hid (Au.out.below hlow);have a0d:=Lib.hid (wy.out _ HR.out);clear hs hlow HZ HN wy;go_wp2_with fail
 refine a0d.out.mono ?_;rintro e w4 ⟨hk,hq⟩;have qJ:=Lib.hid ((aa.of_below lQ.out:aa (fun x=>x=gR) w W3).trans hk);have hs4:=HS.out.keep hk fH.out.symm;obtain ⟨z0,z1,z2,z3,z4⟩:=ku hs4;have lz:=hs4.lt;clear hk hs4;rcases vK HX.out with ⟨hc,rfl⟩ | ⟨hc,h8,rfl⟩ | ⟨hc,h8,hm⟩
 ·rw [show ak ts [123] k = .bad k 3 from (by unfold ak;rw [if_neg hc])] at hq
  simp only at hq
  subst hq;clear hc;go_wp2_with fail
  exact ⟨rfl,qJ.out,rfl⟩
 ·rw [show ak ts [123] k = .ok () (k+1) from (by unfold ak;rw [if_pos hc])] at hq
  obtain ⟨hv,hr⟩:=hq;simp only [mH] at hv
  subst hv;have m1:(8:Int)<(d:Int):=by omega
  clear hc hr;go_wp2_with fail
  refine (Yv.out _).mono ?_;rintro e w5 ⟨rfl,hb⟩;have Gc:=Lib.hid (qJ.out.trans (aa.of_below hb));clear hb;go_wp2_with fail
  exact ⟨rfl,Gc.out,rfl⟩
 ·rw [show ak ts [123] k = .ok () (k+1) from (by unfold ak;rw [if_pos hc])] at hq
  obtain ⟨hv,hr⟩:=hq;simp only [mH] at hv
  subst hv;have m1:¬ (8:Int)<(d:Int):=by omega
  have HR4:=Lib.hid hr;have LZ:=Lib.hid hm;have H8:=Lib.hid h8;clear hc hr hm h8 z0 z1 z2 z3 z4 lz;go_wp2_with fail
  go_loopg [6] (ts.length - (k+1)) (fun gg v6 wx=>∃ (k2:Nat) (q:az),gg=ts.length - k2/\Hid (Bx ts (.more d q) k2 out)/\Hid (mW w.heap.size wx q v6)/\Hid (Rd wx gR gp cap ts k2)/\Hid (aa (fun x=>x=gR) w wx)/\Hid (k<k2/\q.len<=k2))
  case atStart=>exact ⟨k+1,.nil,rfl,LZ,Lib.hid (mW.nil _ _),HR4,qJ,Lib.hid ⟨by omega,Nat.zero_le _⟩⟩
  case round =>
   obtain ⟨k2,q,rfl,LZ,HOS,HR2,AP,HKK⟩:=hrel;obtain ⟨p6,c6,rfl⟩:=HOS.out.slice;have HH:=Lib.hid (HHC.out k2 _ HR2.out);go_wp2_with fail
   refine HH.out.mono ?_;intro e w5 hq;rcases xY LZ.out with ⟨hc,rfl⟩ | ⟨hc,o1,hst,ho⟩
   ·rcases hq with ⟨_,rfl,hk,hr⟩ | ⟨hn,_⟩
    ·have HD:=Lib.hid (show Done gR gp cap ts (WQ w.heap.size) (.ok q (k2+1)) w (.returned (.slice p6 q.len c6)) w5 from
      ⟨AP.out.trans hk,⟨_,rfl,(zY HOS.out HR2.out Ar.out hk).stand (by have:=HKK.out;have:=HR2.out.few;have:=HR2.out.lt;omega)⟩,hr⟩)
     clear hk hr hc;go_wp2_with fail
     go_ret;exact HD.out
    ·exact absurd hc hn
   ·rcases hq with ⟨hn,_⟩ | ⟨_,rfl,hb⟩
    ·exact absurd hn hc
    ·have qE:=Lib.hid (HR2.out.below hb)
     have WU:=Lib.hid (HOS.out.below hb);have C9:=Lib.hid (AP.out.trans (aa.of_below hb));have a0e:=Lib.hid (HIS.out k2 HKK.out.1 d o1 w5 H8.out hst qE.out);have HST:=Lib.hid hst;clear hc hb;go_wp2_with fail
     refine a0e.out.mono ?_;rintro e w6 ⟨hk,hq⟩;have Kv:=Lib.hid (C9.out.trans hk);have a0f:=Lib.hid (zY WU.out qE.out Ar.out hk);have pX:=Lib.hid (show w.heap.size<=w5.heap.size/\(∀ g,(Value.slice p6 q.len c6).ownBlock=some g->g<w5.heap.size) from ⟨C9.out.size,WU.out.lt⟩);clear hk;rcases ho with ⟨j,er,rfl,rfl⟩ | ⟨m,t,e',k3,rfl,hmo⟩
     ·simp only at hq
      subst hq;go_wp2_with fail
      exact ⟨rfl,Kv.out,rfl⟩
     ·obtain ⟨⟨m',t',e2,pa,pb,tv,ev,WV,rfl,ha,hbb,ht,he⟩,Yw⟩:=hq
      injection WV with h1 h2 h3;subst h1 h2 h3;obtain ⟨pt,ct,rfl,_⟩:=ht.len;obtain ⟨pe,ce,rfl,_⟩:=he.len;have hgrow:=((Ju HP.out HST.out qE.out.lt H8.out _ _ rfl).2).2;have HG:=Lib.hid (show k2<k3 by have:=hgrow.1;simp only [az.size] at this;omega);have hal:Below w6.heap.size w6 (w6.alloc (.cells #[.int .u8 m.kind,.int .u8 m.reg,.int .u8 m.mode,.int .u8 m.loc,.pointer pa,.pointer pb,.slice pt t.len ct,.slice pe e'.len ce] 119)):=(Below.refl _ _).alloc (Nat.le_refl _) _;have GN:=Lib.hid hal;have HTA:=Lib.hid (ha.below hal);have VE:=Lib.hid (hbb.below hal);have HOW:=Lib.hid (a0f.out.below hal)
      have HT:=Lib.hid (show aR (fun g=>w.heap.size<=g/\g<(w6.alloc (.cells #[.int .u8 m.kind,.int .u8 m.reg,.int .u8 m.mode,.int .u8 m.loc,.pointer pa,.pointer pb,.slice pt t.len ct,.slice pe e'.len ce] 119)).heap.size/\(Value.slice p6 q.len c6).ownBlock≠some g) _ t (.slice pt t.len ct) from
       (ht.below hal).wider fun g hg=>⟨Nat.le_trans pX.out.1 hg.1,Nat.lt_of_lt_of_le hg.2 hal.size,fun e=>by have:=pX.out.2 g e;have:=hg.1;omega⟩)
      have HE:=Lib.hid (show aR (fun g=>w.heap.size<=g/\g<(w6.alloc (.cells #[.int .u8 m.kind,.int .u8 m.reg,.int .u8 m.mode,.int .u8 m.loc,.pointer pa,.pointer pb,.slice pt t.len ct,.slice pe e'.len ce] 119)).heap.size/\(Value.slice p6 q.len c6).ownBlock≠some g) _ e' (.slice pe e'.len ce) from
       (he.below hal).wider fun g hg=>⟨Nat.le_trans pX.out.1 hg.1,Nat.lt_of_lt_of_le hg.2 hal.size,fun e=>by have:=pX.out.2 g e;have:=hg.1;omega⟩)
      have Pz:=Lib.hid Yw;have a0g:=Lib.hid hmo;have SF:Hid (m=m):=Lib.hid rfl;have Q9:w.heap.size<=w6.heap.size:=Kv.out.size;have Z9:q.len<=5000:=by have:=HKK.out;have:=HR2.out.few;have:=HR2.out.lt;omega
      obtain ⟨cs,hown,rP⟩:=HOW.out;have zW:=Lib.hid rP;have HOWN:=Lib.hid hown;clear ha hbb ht he Yw hmo hal hgrow rP;unfold aC;go_wp2_with (at_builtin;refine wpList_append_lies _ rfl _ _ 80 rfl w.heap.size 119 i0 (.agg cK) 8 72 Tryz.underlying80 hi0 hz0 hz1 hz2 rfl (by omega) _ q.len cs rfl hown ⟨w6.heap.size,0,none⟩ 1 1 (eQ m (.pointer pa) (.pointer pb) (.slice pt t.len ct) (.slice pe e'.len ce)) rfl rfl (Om _ _ _ _ _ _) (DF _ _ _ _ _ _ _ _ _) (by omega) (by unfold maxLen;omega) (by omega) (by simp;omega) (w6.heap.size+1) (by simp) ?_)
      intro g' cap' w7 SH hgrow hat a0h;have ZG:=Lib.hid (mW.append HOWN.out zW.out HTA.out VE.out HT.out HE.out rfl SH hgrow (hat.imp id (fun h=>by rw [h];simp)));have hgk:∀ g,(Value.slice p6 q.len c6).ownBlock=some g->w.heap.size<=g:=fun g hg=>(HOWN.out.lt g hg).1
      have hK7:=DJ (Kv.out.trans (aa.of_below GN.out)) hgrow hgk;have LX:=Lib.hid hK7;have TJ:=Lib.hid (Au.out.grown (Pz.out.below GN.out) hK7 hgrow hgk);clear SH hgrow hat a0h hown hgk hK7;go_wp2_with fail
      go_roundg (ts.length - k3)
      case measure=>have:=HG.out;have:=HR2.out.lt;omega
      case rel=>exact ⟨k3,q.snoc m t e',rfl,a0g,ZG,TJ,LX,Lib.hid ⟨by have:=HG.out;have:=HKK.out;omega,by rw [az.iG];have:=HG.out;have:=HKK.out;omega⟩⟩
end
def dL (vi vt:Value) (al:Bool) (pa:Option Addr):Array Value:=#[vi,vt,.bool al,.pointer pa]
def bV:Array Value:=#[.slice none 0 0,.slice none 0 0,.bool false,.pointer none]
theorem Oz (p q:Option Addr) (n c n' c':Nat) (al:Bool) (pa:Option Addr):(dL (.slice p n c) (.slice q n' c') al pa).all (·.oneCell')=true:=by
 rw [Array.all_eq_true'];intro u hu;simp only [dL,List.mem_toArray,List.mem_cons,List.not_mem_nil,or_false] at hu
 rcases hu with rfl | rfl | rfl | rfl <;> rfl
theorem gY {w w':World} {base:Nat} {e:TypeId} {size n:Nat} {v:Value} {xs:List Value} {X:Nat->Prop} (h:w.ownsRow base e size v n xs) (k:aa X w w') (hn:∀ g,v.ownBlock=some g->¬ X g):w'.ownsRow base e size v n xs:=by
 refine ⟨h.1,?_⟩;rcases h.2 with h2 | ⟨g,cap,cur,rfl,hb,hh,r⟩
 ·exact .inl h2
 ·exact .inr ⟨g,cap,cur,rfl,hb,(k.block g (lt_of_block hh) (hn g rfl)).trans hh,r⟩
theorem zZ {w:World} {base:Nat} {e e':TypeId} {size size' n n':Nat} {v v':Value} {xs xs':List Value} (h:w.ownsRow base e size v n xs) (h':w.ownsRow base e' size' v' n' xs') (hne:e≠e'):∀ g,v'.ownBlock=some g->v.ownBlock≠some g:=by
 intro g hg;rcases h'.2 with ⟨rfl,_⟩ | ⟨g',cap,cur,rfl,_,hh,_⟩
 ·simp [Value.ownBlock] at hg
 ·have:g' = g:=by simpa [Value.ownBlock] using hg
  subst this;exact aK h (show Sits w g' e' cur from hh) hne
section
variable {gR gp cap : Nat} {ts : List Lex.Tok}
structure z8 (w:World) (gR g:Nat) (li:List (Nat × Nat)) (bs:List az) (al:Bool) (ask:Option Ex) (vi vt:Value) (pa:Option Addr) (W:World):Prop where
 low:aa (fun x=>x=gR) w W
 lt:gR<w.heap.size
 box:Sits W g 27 (dL vi vt al pa)
 gB:w.heap.size<=g
 init:W.ownsRow w.heap.size 78 2 vi li.length (li.flatMap aX)
 row:∃ vs:List Value,W.ownsRow w.heap.size 80 1 vt bs.length vs/\vs.length=bs.length/\∀ (i:Nat) (b:az) (u:Value),bs[i]? = some b->vs[i]? = some u->aR (iK (w.heap.size+2) W vt g) W b u
 ask:Tree W (kr ask) (.pointer pa)
 two:w.heap.size+2<=W.heap.size
theorem Eu {X:Nat->Prop} {w W W':World} (h:aa (fun x=>x=gR) w W) (hk:aa X W W') (hX:∀ x,X x->x=gR \/ w.heap.size<=x):aa (fun x=>x=gR) w W' :=
 (((h.wider fun x _ e => .inl e).trans (hk.wider fun x _ e => .inr e):aa (fun x=>x=gR \/ X x) w W')).wider fun x hx e=>e.elim id fun e=>(hX x e).resolve_right (by omega)
section
variable {w W W' : World} {g : Nat} {li : List (Nat × Nat)} {bs : List az} {al : Bool} {ask : Option Ex} {vi vt : Value} {pa : Option Addr}
theorem z8.keep {X:Nat->Prop} (h:z8 w gR g li bs al ask vi vt pa W) (hk:aa X W W') (hX:∀ x,X x->x=gR \/ W.heap.size<=x) (hs:Stable 159 W W'):z8 w gR g li bs al ask vi vt pa W':=by
 have hlt:=h.lt;have nx:∀ x,w.heap.size<=x->x<W.heap.size->¬ X x:=fun x h1 h2 hx=>by rcases hX x hx with rfl | h3 <;> omega
 have ho:∀ {e:TypeId} {size n:Nat} {v:Value} {xs:List Value},W.ownsRow w.heap.size e size v n xs->W'.ownsRow w.heap.size e size v n xs:=fun ho=>gY ho hk fun y hy=>nx y (ho.lt y hy).1 (ho.lt y hy).2
 refine ⟨Eu h.low hk fun x hx=>(hX x hx).imp id fun e=>Nat.le_trans h.low.size e,h.lt,h.box.keep hk (nx g h.gB h.box.lt),h.gB,ho h.init,?_,h.ask.stable hs,Nat.le_trans h.two hk.size⟩;obtain ⟨vs,h1,h2,h3⟩:=h.row
 exact ⟨vs,ho h1,h2,fun i b u hb hu=>((h3 i b u hb hu).keep hs fun x ⟨a,b,_,_⟩ j y hy=>by
  rw [World.cell?_of_block (hk.block x b (nx x (by omega) b))];exact hy).wider (iV hk.size)⟩
theorem z8.below (h:z8 w gR g li bs al ask vi vt pa W) (hb:Below W.heap.size W W'):z8 w gR g li bs al ask vi vt pa W' :=
 h.keep (aa.of_below (X:=fun _=>False) hb) (fun _ hx=>hx.elim) (Stable.below hb)
theorem z8.keepR {k:Nat} (h:z8 w gR g li bs al ask vi vt pa W) (hr:Rd W gR gp cap ts k) (hk:aa (fun x=>x=gR) W W'):z8 w gR g li bs al ask vi vt pa W' :=
 h.keep hk (fun _ hx => .inl hx) (hr.stable hk)
theorem z8.made {c:az} {u:Value} (h:z8 w gR g li bs al ask vi vt pa W) (hc:aR (fresh W.heap.size W') W' c u):aR (iK (w.heap.size+2) W' vt g) W' c u :=
 hc.wider fun x ⟨h1,h2⟩=>⟨Nat.le_trans h.two h1,h2,fun e=>by
  obtain ⟨vs,hv,_⟩:=h.row
  have:=(hv.lt x e).2;omega,by have:=h.box.lt;omega⟩
theorem z8.OA {qG:Value} {x:Nat × Nat} (h:z8 w gR g li [] al ask vi vt pa W) (hk:aa (fun x=>vi.ownBlock=some x \/ x=g) W W')
  (hown:W'.ownsRow w.heap.size 78 2 qG (li.length+1) (li.flatMap aX ++ aX x)) (Ih:Sits W' g 27 (dL qG vt al pa)):z8 w gR g (li ++ [x]) [] al ask qG vt pa W' where
 low:=Eu h.low hk fun y e => .inr (e.elim (fun e=>(h.init.lt y e).1) (fun e=>by rw [e];exact h.gB))
 two:=Nat.le_trans h.two hk.size
 lt:=h.lt
 box:=Ih
 gB:=h.gB
 init:=by simpa using hown
 row:=by
  obtain ⟨vs,h1,h2,h3⟩:=h.row;refine ⟨vs,gY h1 hk fun y hy hx=>?_,h2,fun i b u hb=>by simp at hb⟩;rcases hx with hx | rfl
  ·exact zZ h.init h1 (by decide) y hy hx
  ·exact aK h1 h.box (by decide) hy
 ask:=h.ask.stable (Stable.keeps hk fun y cs hs hx=>by
  rcases hx with hx | rfl
  ·exact aK h.init hs (by decide) hx
  ·exact hs.differ h.box (by decide) rfl)
theorem z8.OB {oz u:Value} {b:az} (h:z8 w gR g li bs al ask vi vt pa W) (hu:aR (iK (w.heap.size+2) W vt g) W b u) (hk:aa (fun x=>vt.ownBlock=some x \/ x=g) W W')
  {vs:List Value} (h1:W.ownsRow w.heap.size 80 1 vt bs.length vs) (h2:vs.length=bs.length) (h3:∀ (i:Nat) (b:az) (u:Value),bs[i]? = some b->vs[i]? = some u->aR (iK (w.heap.size+2) W vt g) W b u)
  (hown:W'.ownsRow w.heap.size 80 1 oz (bs.length+1) (vs ++ [u])) (hat:∀ x,oz.ownBlock=some x->vt.ownBlock=some x \/ W.heap.size<=x) (Ih:Sits W' g 27 (dL vi oz al pa)):z8 w gR g li (bs ++ [b]) al ask vi oz pa W' where
 low:=Eu h.low hk fun y e => .inr (e.elim (fun e=>(h1.lt y e).1) (fun e=>by rw [e];exact h.gB))
 two:=Nat.le_trans h.two hk.size
 lt:=h.lt
 box:=Ih
 gB:=h.gB
 init:=gY h.init hk fun y hy hx=>by
  rcases hx with hx | rfl
  ·exact zZ h1 h.init (by decide) y hy hx
  ·exact aK h.init h.box (by decide) hy
 row:=by
  have hs:Stable 159 W W':=Stable.keeps hk fun y cs hs hx=>by
   rcases hx with hx | rfl
   ·exact aK h1 hs (by decide) hx
   ·exact hs.differ h.box (by decide) rfl
  have hz:∀ x,iK (w.heap.size+2) W vt g x->iK (w.heap.size+2) W' oz g x:=fun x ⟨a,b,c,d⟩=>⟨a,Nat.lt_of_lt_of_le b hk.size,fun e=>(hat x e).elim (fun h=>c h) (fun h=>by omega),d⟩
  have hzk:∀ x,iK (w.heap.size+2) W vt g x->∀ j y,W.cell? ⟨x,j,none⟩=some y->W'.cell? ⟨x,j,none⟩=some y:=fun x ⟨_,h2,h3,h4⟩ j y hy=>by
   rw [World.cell?_of_block (hk.block x h2 (by rintro (h | h) <;> contradiction))];exact hy
  refine ⟨vs ++ [u],by simpa using hown,by simp [h2],fun i c y hc hy=>?_⟩;by_cases hi:i<bs.length
  ·rw [List.getElem?_append_left hi] at hc
   rw [List.getElem?_append_left (by omega)] at hy;exact ((h3 i c y hc hy).keep hs hzk).wider hz
  ·have hlt:=(List.getElem?_eq_some_iff.1 hc).1
   simp at hlt
   obtain rfl:i=bs.length:=by omega
   rw [List.getElem?_append_right (by omega),Nat.sub_self] at hc;rw [List.getElem?_append_right (by omega),h2,Nat.sub_self] at hy;simp only [List.getElem?_cons_zero,Option.some.injEq] at hc hy
   subst hc hy;exact (hu.keep hs hzk).wider hz
 ask:=h.ask.stable (Stable.keeps hk fun y cs hs hx=>by
  rcases hx with hx | rfl
  ·exact aK h1 hs (by decide) hx
  ·exact hs.differ h.box (by decide) rfl)
theorem z8.cell {i:Nat} {u:Value} (h:z8 w gR g li bs al ask vi vt pa W) {al':Bool} {Uy:Option Ex} {pa':Option Addr} (hc:(dL vi vt al pa).setIfInBounds i u=dL vi vt al' pa') (ha:Tree W (kr Uy) (.pointer pa')):z8 w gR g li bs al' Uy vi vt pa' (W.setCell ⟨g,i,none⟩ u):=by
 have hs:Stable 159 W (W.setCell ⟨g,i,none⟩ u):=Stable.put h.box (by decide) i u;have hk:aa (fun x=>x=g) W (W.setCell ⟨g,i,none⟩ u):=(aa.refl (fun x=>x=g) W).put (p:=⟨g,i,none⟩) (.inl rfl) u;obtain ⟨vs,h1,h2,h3⟩:=h.row;have hb:=h.box.put i u;rw [hc] at hb
 refine ⟨h.low.put (p:=⟨g,i,none⟩) (.inr h.gB) u,h.lt,hb,h.gB,gY h.init hk fun y hy e=>by subst e;exact aK h.init h.box (by decide) hy,
  ⟨vs,gY h1 hk fun y hy e=>by subst e;exact aK h1 h.box (by decide) hy,h2,fun i' b u' hb' hu=>((h3 i' b u' hb' hu).keep hs mX).wider (iV (by rw [jZ];exact Nat.le_refl _))⟩,ha.stable hs,by rw [jZ];exact h.two⟩
theorem yA {w:World} {base:Nat} {e:TypeId} {size n:Nat} {v:Value} {xs:List Value} (h:w.ownsRow base e size v n xs) (hn:n<=1000000):gQ (fun g=>base<=g) w v n xs:=by
 rcases h.2 with ⟨rfl,rfl⟩ | ⟨g,cap,cur,rfl,hB,hh,_,_,_,_⟩
 ·exact .inl ⟨rfl,none,0,rfl⟩
 ·refine .inr ⟨g,0,cap,rfl,hB,hn,fun j u hu=>?_⟩
  have:=h.cells (g:=g) rfl j u hu;rw [Nat.zero_add];have e:(⟨g,0,none⟩:Addr).add j=⟨g,j,none⟩:=by unfold Addr.add;by_cases hj:j=0 <;> simp [hj]
  rwa [e] at this
structure uB (U:Nat->Prop) (w:World) (t:Ts) (vi vt va:Value):Prop where
 init:gQ U w vi t.init.length (t.init.flatMap aX)
 threads:∃ vs:List Value,gQ U w vt t.threads.length vs/\vs.length=t.threads.length/\∀ (i:Nat) (b:az) (u:Value),t.threads[i]? = some b->vs[i]? = some u->aR U w b u
 ask:Tree w (kr t.ask) va
theorem uB.keep {U:Nat->Prop} {w w':World} {t:Ts} {vi vt va:Value} (h:uB U w t vi vt va) (hs:Stable 159 w w') (hk:∀ g,U g->∀ j u,w.cell? ⟨g,j,none⟩=some u->w'.cell? ⟨g,j,none⟩=some u):uB U w' t vi vt va:=by
 obtain ⟨h1,⟨vs,h2,h3,h4⟩,h5⟩:=h;exact ⟨h1.keep hk,⟨vs,h2.keep hk,h3,fun i b u hb hu=>(h4 i b u hb hu).keep hs hk⟩,h5.stable hs⟩
theorem uB.v {U:Nat->Prop} {w:World} {t:Ts} {vi vt va:Value} (h:uB U w t vi vt va):nO w t vi vt va:=by
 obtain ⟨h1,⟨vs,h2,h3,h4⟩,h5⟩:=h;exact ⟨h1.wider fun _ _=>trivial,⟨vs,h2.wider fun _ _=>trivial,h3,fun i b u hb hu=>(h4 i b u hb hu).wider fun _ _=>trivial⟩,h5⟩
theorem z8.final {g2:Nat} (h:z8 w gR g li bs al ask vi vt pa W) (h2:Sits W g2 27 bV) (hg:g2=w.heap.size) (hne:g2≠g) (hl:li.length<=1000000) (hb:bs.length<=1000000) :
  uB (fun g=>w.heap.size<=g) (W.setRow g2 (dL vi vt al pa)) ⟨li,bs,al,ask⟩ vi vt (.pointer pa)/\aa (fun x=>x=gR) w (W.setRow g2 (dL vi vt al pa)):=by
 have k:=bK W g2 (dL vi vt al pa);have hs:Stable 159 W (W.setRow g2 (dL vi vt al pa)):=Stable.keeps k fun y cs hs hx=>hs.differ h2 (by decide) hx
 obtain ⟨vs,h1,h3,h4⟩:=h.row
 refine ⟨⟨yA (gY h.init k fun y hy hx=>by subst hx;exact aK h.init h2 (by decide) hy) hl,
  ⟨vs,yA (gY h1 k fun y hy hx=>by subst hx;exact aK h1 h2 (by decide) hy) hb,h3,fun i b u hb hu=>?_⟩,h.ask.stable hs⟩,Eu h.low k fun x e => .inr (by omega)⟩
 refine ((h4 i b u hb hu).keep hs fun x ⟨a,b,_,_⟩ j y hy=>?_).wider fun x ⟨a,_⟩=>by omega
 rw [World.cell?_of_block (k.block x b (by omega))];exact hy
end
end
end Go.Proofs.YtaanhmndeobgbaaGreatDoor.fT
