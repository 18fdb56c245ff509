/- Part 44 of the proof: what is used of the texts StmZB. -/
import Derived.Test.YtaanhmndeobgbaaGreatDoorGC0
import Derived.Test.YtaanhmndeobgbaaGreatDoorGB0
import Derived.Test.YtaanhmndeobgbaaGreatDoorGD0
import Derived.Test.YtaanhmndeobgbaaGreatDoorGB3
import Derived.Deep.AppendLies
set_option maxRecDepth 100000
set_option maxHeartbeats 4000000
namespace Go.Proofs.YtaanhmndeobgbaaGreatDoor.Prog
open Go.RowKit Mem Go.Proofs.YtaanhmndeobgbaaGreatDoor.Expr Go.Lib
structure Rt.bd (t:Rt):Prop where
 ask:∀ a ∈ t.ask,a.bd
 init:∀ x ∈ t.init,x.1<256/\x.2<18446744073709551616
 each:∀ l ∈ t.threads,∀ x ∈ l,x.bd
end Go.Proofs.YtaanhmndeobgbaaGreatDoor.Prog
namespace Go.Proofs.YtaanhmndeobgbaaGreatDoor.Prog
open Go.RowKit Mem Go.Proofs.YtaanhmndeobgbaaGreatDoor.Expr ae Go.Lib
structure Rt.few (t:Rt):Prop where
 threads:t.threads.length<=1000
 init:t.init.length<=1000
structure JM (U:Nat->Prop) (w:World) (t:Ts) (vi vt va:Value):Prop where
 init:gQ U w vi t.init.length (t.init.flatMap aX)
 threads:∃ vs:List Value,gQ U w vt t.threads.length vs/\vs.length=t.threads.length/\∀ (i:Nat) (b:az) (u:Value),t.threads[i]? = some b->vs[i]? = some u->aR U w b u
 ask:Tree w (kr t.ask) va
section
variable {U X : Nat → Prop} {w w' : World} {t : Ts} {vi vt va : Value}
theorem JM.v (h:JM U w t vi vt va):nO w t vi vt va:=by
 obtain ⟨h1,⟨vs,h2,h3,h4⟩,h5⟩:=h;exact ⟨h1.wider fun _ _=>trivial,⟨vs,h2.wider fun _ _=>trivial,h3,fun i b u hb hu=>(h4 i b u hb hu).wider fun _ _=>trivial⟩,h5⟩
end
def Rq (t:Rt) (w:World) (e:Ending) (w':World):Prop:=∃ vi vt va,e = .returned (eU vi vt t.all va)/\JM (fun g=>w.heap.size<=g) w' (T9 t) vi vt va/\Below w.heap.size w w'
def dI (vi vt:Value) (al:Bool) (pa:Option Addr):Array Value:=#[vi,vt,.bool al,.pointer pa]
def uG:Array Value:=#[.slice none 0 0,.slice none 0 0,.bool false,.pointer none]
structure Cc (w0:World) (g:Nat) (li:List (Nat × Nat)) (bs:List az) (al:Bool) (ask:Option Ex) (vi vt:Value) (pa:Option Addr) (W:World):Prop where
 low:Below w0.heap.size w0 W
 box:Sits W g 27 (dI vi vt al pa)
 gB:w0.heap.size<=g
 init:W.ownsRow w0.heap.size 78 2 vi li.length (li.flatMap aX)
 row:∃ vs:List Value,W.ownsRow w0.heap.size 80 1 vt bs.length vs/\vs.length=bs.length/\∀ (i:Nat) (b:az) (u:Value),bs[i]? = some b->vs[i]? = some u->aR (iK (w0.heap.size+2) W vt g) W b u
 ask:Tree W (kr ask) (.pointer pa)
 two:w0.heap.size+2<=W.heap.size
def Kt (al:Bool) (e0:Option Ex):Value->World->Prop:=fun u W=>∃ p,u = .agg #[.slice none 0 0,.slice none 0 0,.bool al,.pointer p]/\Tree W (kr e0) (.pointer p)
theorem Lp (al:Bool) (e0:Option Ex):yc (Kt al e0):=fun _ _ _ ⟨p,hu,ht⟩ hb=>⟨p,hu,ht.below hb⟩
def OX (B:Nat):Value->World->Prop:=fun u W=>∃ g,u = .pointer (some ⟨g,0,none⟩)/\B<=g/\Sits W g 27 uG
theorem Ir (B:Nat):yc (OX B):=fun _ _ _ ⟨g,hu,hB,hs⟩ hb=>⟨g,hu,hB,hs.below hb hs.lt⟩
theorem JN (p q:Option Addr) (n c n' c':Nat) (al:Bool) (pa:Option Addr):(dI (.slice p n c) (.slice q n' c') al pa).all (·.oneCell')=true:=by
 rw [Array.all_eq_true'];intro u hu;simp only [dI,List.mem_toArray,List.mem_cons,List.not_mem_nil,or_false] at hu
 rcases hu with rfl | rfl | rfl | rfl <;> rfl
theorem x9 {X:Nat->Prop} {w w1 w2:World} {row:Option Nat} (h:aa X w w1) (hg:w1.grownBy w2 row) (hr:∀ k,row=some k->X k):aa X w w2 :=
 h.trans ⟨hg.os,hg.tape,hg.output,hg.size,fun b hb hn=>hg.block b hb (fun e=>hn (hr b e.symm))⟩
theorem kg {w w':World} {base:Nat} {e:TypeId} {size n:Nat} {v:Value} {xs:List Value} {X:Nat->Prop} (h:w.ownsRow base e size v n xs) (k:aa X w w') (hn:∀ g,v.ownBlock=some g->¬ X g):w'.ownsRow base e size v n xs:=by
 refine ⟨h.1,?_⟩;rcases h.2 with h2 | ⟨g,cap,cur,rfl,hb,hh,r⟩
 ·exact .inl h2
 ·exact .inr ⟨g,cap,cur,rfl,hb,(k.block g (lt_of_block hh) (hn g rfl)).trans hh,r⟩
theorem Ce {w:World} {base:Nat} {e e':TypeId} {size size' n n':Nat} {v v':Value} {xs xs':List Value} (h:w.ownsRow base e size v n xs) (h':w.ownsRow base e' size' v' n' xs') (hne:e≠e'):∀ g,v'.ownBlock=some g->v.ownBlock≠some g:=by
 intro g hg;rcases h'.2 with ⟨rfl,_⟩ | ⟨g',cap,cur,rfl,_,hh,_⟩
 ·simp [Value.ownBlock] at hg
 ·have:g' = g:=by simpa [Value.ownBlock] using hg
  subst this;exact aK h (show Sits w g' e' cur from hh) hne
theorem Cc.OA {w0 W W':World} {g:Nat} {li:List (Nat × Nat)} {al:Bool} {ask:Option Ex} {vi qG vt:Value} {pa:Option Addr} {x:Nat × Nat} (h:Cc w0 g li [] al ask vi vt pa W) (hk:aa (fun x=>vi.ownBlock=some x \/ x=g) W W')
  (hown:W'.ownsRow w0.heap.size 78 2 qG (li.length+1) (li.flatMap aX ++ aX x)) (Ih:Sits W' g 27 (dI qG vt al pa)):Cc w0 g (li ++ [x]) [] al ask qG vt pa W' where
 low:=behind h.low hk h.low.size (fun y hy=>by
  rcases hy with hy | rfl
  ·exact (h.init.lt y hy).1
  ·exact h.gB)
 box:=Ih
 gB:=h.gB
 init:=by simpa using hown
 row:=by
  obtain ⟨vs,h1,h2,h3⟩:=h.row;refine ⟨vs,kg h1 hk fun y hy hx=>?_,h2,fun i b u hb=>by simp at hb⟩;rcases hx with hx | rfl
  ·exact Ce h.init h1 (by decide) y hy hx
  ·exact aK h1 h.box (by decide) hy
 ask:=h.ask.stable (Stable.keeps hk fun y cs hs hx=>by
  rcases hx with hx | rfl
  ·exact aK h.init hs (by decide) hx
  ·exact hs.differ h.box (by decide) rfl)
 two:=Nat.le_trans h.two hk.size
theorem Cf {B:Nat} {W W':World} {v:Value} {g:Nat} (hk:aa (fun x=>v.ownBlock=some x \/ x=g) W W'):∀ x,iK B W v g x->∀ j y,W.cell? ⟨x,j,none⟩=some y->W'.cell? ⟨x,j,none⟩=some y:=fun x ⟨_,h2,h3,h4⟩ j y hy=>by
 rw [World.cell?_of_block (hk.block x h2 (by rintro (h | h) <;> contradiction))];exact hy
theorem Cc.OB {w0 W W':World} {g:Nat} {li:List (Nat × Nat)} {bs:List az} {al:Bool} {ask:Option Ex} {vi vt oz u:Value} {pa:Option Addr} {b:az} (h:Cc w0 g li bs al ask vi vt pa W) (hu:aR (iK (w0.heap.size+2) W vt g) W b u) (hk:aa (fun x=>vt.ownBlock=some x \/ x=g) W W')
  {vs:List Value} (h1:W.ownsRow w0.heap.size 80 1 vt bs.length vs) (h2:vs.length=bs.length) (h3:∀ (i:Nat) (b:az) (u:Value),bs[i]? = some b->vs[i]? = some u->aR (iK (w0.heap.size+2) W vt g) W b u)
  (hown:W'.ownsRow w0.heap.size 80 1 oz (bs.length+1) (vs ++ [u])) (hat:∀ x,oz.ownBlock=some x->vt.ownBlock=some x \/ W.heap.size<=x) (Ih:Sits W' g 27 (dI vi oz al pa)):Cc w0 g li (bs ++ [b]) al ask vi oz pa W' where
 low:=behind h.low hk h.low.size (fun y hy=>by
  rcases hy with hy | rfl
  ·exact (h1.lt y hy).1
  ·exact h.gB)
 box:=Ih
 gB:=h.gB
 init:=kg h.init hk fun y hy hx=>by
  rcases hx with hx | rfl
  ·exact Ce h1 h.init (by decide) y hy hx
  ·exact aK h.init h.box (by decide) hy
 row:=by
  have hs:Stable 159 W W':=Stable.keeps hk fun y cs hs hx=>by
   rcases hx with hx | rfl
   ·exact aK h1 hs (by decide) hx
   ·exact hs.differ h.box (by decide) rfl
  have hz:∀ x,iK (w0.heap.size+2) W vt g x->iK (w0.heap.size+2) W' oz g x:=fun x ⟨a,b,c,d⟩=>⟨a,Nat.lt_of_lt_of_le b hk.size,fun e=>(hat x e).elim (fun h=>c h) (fun h=>by omega),d⟩
  refine ⟨vs ++ [u],by simpa using hown,by simp [h2],fun i c y hc hy=>?_⟩;by_cases hi:i<bs.length
  ·rw [List.getElem?_append_left hi] at hc
   rw [List.getElem?_append_left (by omega)] at hy;exact ((h3 i c y hc hy).keep hs (Cf hk)).wider hz
  ·have hlt:=(List.getElem?_eq_some_iff.1 hc).1
   simp at hlt
   obtain rfl:i=bs.length:=by omega
   rw [List.getElem?_append_right (by omega),Nat.sub_self] at hc;rw [List.getElem?_append_right (by omega),h2,Nat.sub_self] at hy;simp only [List.getElem?_cons_zero,Option.some.injEq] at hc hy
   subst hc hy;exact (hu.keep hs (Cf hk)).wider hz
 ask:=h.ask.stable (Stable.keeps hk fun y cs hs hx=>by
  rcases hx with hx | rfl
  ·exact aK h1 hs (by decide) hx
  ·exact hs.differ h.box (by decide) rfl)
 two:=Nat.le_trans h.two hk.size
structure vU (w0:World) (gx gr:Nat) (cx:Array Value) (t:Rt) (vi vt va:Value) (W:World):Prop where
 box:Sits W gx 37 cx
 res:Sits W gr 27 uG
 rB:gr=w0.heap.size+1
 v:QF W t vi vt va
 old:QF w0 t vi vt va
theorem vU.below {w0 W W':World} {gx gr:Nat} {cx:Array Value} {t:Rt} {vi vt va:Value} (h:vU w0 gx gr cx t vi vt va W) (hb:Below W.heap.size W W'):vU w0 gx gr cx t vi vt va W' :=
 ⟨h.box.below hb h.box.lt,h.res.below hb h.res.lt,h.rB,h.v.below hb,h.old⟩
theorem vU.keeps {w0 W W':World} {gx gr:Nat} {cx:Array Value} {t:Rt} {vi vt va:Value} {X:Nat->Prop} (h:vU w0 gx gr cx t vi vt va W) (k:aa X W W') (hl:Below w0.heap.size w0 W) (hX:∀ x,X x->w0.heap.size<=x) (nx:¬ X gx) (nr:¬ X gr):vU w0 gx gr cx t vi vt va W' :=
 ⟨h.box.keep k nx,h.res.keep k nr,h.rB,h.old.below (behind hl k hl.size hX),h.old⟩
theorem Al {α:Type} {l:List α} {k:Nat} {x:α} (h:l[k]? = some x):l.take k ++ [x]=l.take (k+1):=by rw [List.take_add_one,h];rfl
theorem FV {W:World} {g:Nat} {t:TypeId} {cs:List Value} (h:Sits W g t cs.toArray):∀ j u,cs[j]? = some u->W.cell? ((⟨g,0,none⟩:Addr).add j)=some u:=by
 intro j u hj;have e:(⟨g,0,none⟩:Addr).add j=⟨g,j,none⟩:=by unfold Addr.add;by_cases h:j=0 <;> simp [h]
 rw [e,h.cell];simpa using hj
theorem OY (x:Nat × Nat):∀ u ∈ aX x,u.oneCell' = true:=by
 intro u hu;simp only [aX,List.mem_cons,List.not_mem_nil,or_false] at hu
 rcases hu with rfl | rfl <;> rfl
theorem Cc.below {w0 W W':World} {g:Nat} {li:List (Nat × Nat)} {bs:List az} {al:Bool} {ask:Option Ex} {vi vt:Value} {pa:Option Addr} (h:Cc w0 g li bs al ask vi vt pa W) (hb:Below W.heap.size W W'):Cc w0 g li bs al ask vi vt pa W' where
 low:=h.low.trans (hb.mono h.low.size)
 box:=h.box.below hb h.box.lt
 gB:=h.gB
 init:=kg h.init (aa.of_below (X:=fun _=>False) hb) (fun _ _ h=>h)
 row:=by
  obtain ⟨vs,h1,h2,h3⟩:=h.row;exact ⟨vs,kg h1 (aa.of_below (X:=fun _=>False) hb) (fun _ _ h=>h),h2,fun i b u hb' hu=>((h3 i b u hb' hu).below hb).wider (iV hb.size)⟩
 ask:=h.ask.below hb
 two:=Nat.le_trans h.two hb.size
theorem Cc.made {w0 W W':World} {g:Nat} {li:List (Nat × Nat)} {bs:List az} {al:Bool} {ask:Option Ex} {vi vt:Value} {pa:Option Addr} {c:az} {u:Value} (h:Cc w0 g li bs al ask vi vt pa W) (hc:aR (fresh W.heap.size W') W' c u):aR (iK (w0.heap.size+2) W' vt g) W' c u :=
 hc.wider fun x ⟨h1,h2⟩=>⟨Nat.le_trans h.two h1,h2,fun e=>by
  obtain ⟨vs,hv,_⟩:=h.row
  have:=(hv.lt x e).2;omega,by have:=h.box.lt;omega⟩
theorem Cg {w:World} {base:Nat} {e:TypeId} {size n:Nat} {v:Value} {xs:List Value} (h:w.ownsRow base e size v n xs) (hn:n<=1000000):gQ (fun g=>base<=g) w v n xs:=by
 rcases h.2 with ⟨rfl,rfl⟩ | ⟨g,cap,cur,rfl,hB,hh,_,_,_,_⟩
 ·exact .inl ⟨rfl,none,0,rfl⟩
 ·refine .inr ⟨g,0,cap,rfl,hB,hn,fun j u hu=>?_⟩
  have:=h.cells (g:=g) rfl j u hu;rw [Nat.zero_add];have e:(⟨g,0,none⟩:Addr).add j=⟨g,j,none⟩:=by unfold Addr.add;by_cases hj:j=0 <;> simp [hj]
  rwa [e] at this
theorem Cc.final {w0 W W':World} {g gr:Nat} {li:List (Nat × Nat)} {bs:List az} {al:Bool} {ask:Option Ex} {vi vt:Value} {pa:Option Addr} (h:Cc w0 g li bs al ask vi vt pa W) (hr:Sits W gr 27 uG) (hg:gr=w0.heap.size+1) (hne:gr≠g) (k:aa (fun x=>x=gr) W W')
  (hl:li.length<=1000) (hb:bs.length<=1000):JM (fun g=>w0.heap.size<=g) W' ⟨li,bs,al,ask⟩ vi vt (.pointer pa)/\Below w0.heap.size w0 W':=by
 have hs:Stable 159 W W':=Stable.keeps k fun y cs hs hx=>hs.differ hr (by decide) hx
 obtain ⟨vs,h1,h2,h3⟩:=h.row
 refine ⟨⟨Cg (kg h.init k fun y hy hx=>by subst hx;exact aK h.init hr (by decide) hy) (show li.length<=1000000 by omega),
  ⟨vs,Cg (kg h1 k fun y hy hx=>by subst hx;exact aK h1 hr (by decide) hy) (show bs.length<=1000000 by omega),h2,fun i b u hb hu=>?_⟩,h.ask.stable hs⟩,behind h.low k h.low.size (fun y hy=>by omega)⟩
 refine ((h3 i b u hb hu).keep hs fun x ⟨a,b,_,_⟩ j y hy=>?_).wider fun x ⟨a,_⟩=>by omega
 rw [World.cell?_of_block (k.block x b (by omega))];exact hy
theorem OZ:(Tryz.prog.info? 27).map (·.size)=some 4:=by kernel_rfl
theorem UU:(Tryz.prog.info? 78).map (fun i=>(i.zero,i.size,i.bytes))=some (some (.agg #[.int .u8 0,.int .u64 0]),2,16):=by kernel_rfl
theorem UW:(Tryz.prog.info? 80).map (fun i=>(i.zero,i.size,i.bytes))=some (some (.slice none 0 0),1,24):=by kernel_rfl
def Vt (w:World) (t:Rt) (vi vt va:Value):World:=(w.alloc (.cells #[vi,vt,.bool t.all,va] 37)).alloc (.cells uG 27)
def vR (W:World) (g:Nat) (al:Bool) (p:Option Addr):World:=W.setRow g (dI (.slice none 0 0) (.slice none 0 0) al p)
theorem Lr {W:World} {g:Nat} (al:Bool) (p:Option Addr) (h:Sits W g 27 uG):Sits (vR W g al p) g 27 (dI (.slice none 0 0) (.slice none 0 0) al p):=setRow_heap W g _ _ _ _ h
theorem FW (W:World) (g:Nat) (al:Bool) (p:Option Addr):aa (fun x=>x=g) W (vR W g al p):=⟨rfl,rfl,rfl,by simp [vR,World.setRow],fun x _ hx=>setRow_other W g x _ hx⟩
theorem Rs (t:Rt) (hbd:t.bd) (hf:t.few) (vi vt va:Value) (w:World) (hT:QF w t vi vt va):Calls Tryz.prog 8 #[.agg (yw vi vt t.all va)] w (Rq t w):=by
 obtain ⟨pi,ci,rfl⟩:=hT.init.len;obtain ⟨pt,ct,rfl,hlt⟩:=hT.threads.len;obtain ⟨pa,ca,rfl,hla⟩:=hT.ask.len;obtain ⟨li,lt,al,la⟩:=t;have hmt:=hf.threads;have L6:=hf.init;simp only at hT hlt hla hmt L6 ⊢
 have hb:Below w.heap.size w (Vt w ⟨li,lt,al,la⟩ (.slice pi li.length ci) (.slice pt lt.length ct) (.slice pa la.length ca)):=((Below.refl _ _).alloc (Nat.le_refl _) _).alloc (by simp) _;have HR:Hid (vU w w.heap.size (w.heap.size+1) #[.slice pi li.length ci,.slice pt lt.length ct,.bool al,.slice pa la.length ca] ⟨li,lt,al,la⟩ (.slice pi li.length ci) (.slice pt lt.length ct) (.slice pa la.length ca) (Vt w ⟨li,lt,al,la⟩ (.slice pi li.length ci) (.slice pt lt.length ct) (.slice pa la.length ca))) :=
  hid ⟨(Sits.new _ _ _).alloc _,Sits.made (by simp) _ _,rfl,hT.below hb,hT⟩
 have HB0:=hid hb;have HW2:Hid ((Vt w ⟨li,lt,al,la⟩ (.slice pi li.length ci) (.slice pt lt.length ct) (.slice pa la.length ca)).heap.size=w.heap.size+2):=hid (by simp [Vt]);have j1:(lt.length:Int)<=1000:=by omega
 have j2:(li.length:Int)<=1000:=by omega
 have Vn:=hid hbd;unfold yw;clear hT hb hla hlt hf hbd hmt L6;go_enter Tryz.func8,Tryz.ntmps8;go_wp2_with fail
 change Code.wp _ _ _ _ (Vt w ⟨li,lt,al,la⟩ (.slice pi li.length ci) (.slice pt lt.length ct) (.slice pa la.length ca));generalize Vt w ⟨li,lt,al,la⟩ (.slice pi li.length ci) (.slice pt lt.length ct) (.slice pa la.length ca)=wa at HB0 HR HW2 ⊢;generalize hgr:w.heap.size+1=gr at HR ⊢;generalize hgx:w.heap.size=gx at HR ⊢;have Gi:=hid hgx;clear hgr hgx;refine nJ [8,9,10,11,12,13,3] [aV (.pointer (some ⟨gx,2,none⟩)),aV (.bool al),aV (.pointer (some ⟨gx,3,none⟩)),aV (.slice pa la.length ca),Ie (iT la),Kt al (iT la),OX wa.heap.size]
  (by kernel_rfl) (by kernel_rfl) (by kernel_rfl) (by rfl) (by simp only [List.mem_cons,List.not_mem_nil,or_false,forall_eq_or_imp,forall_eq];refine ⟨?_,?_,?_,?_,?_,?_,?_⟩ <;> first | exact eH _ | exact vJ _ | exact Lp _ _ | exact Ir _) ?_ ?_
 ·intro i o hi ho A W hW hk he
  simp only [List.length_cons,List.length_nil,Nat.zero_add,Nat.reduceAdd] at hi
  have hR:=HR.out.below hW;obtain rfl | rfl | rfl | rfl | rfl | rfl | rfl:i=0 \/ i=1 \/ i=2 \/ i=3 \/ i=4 \/ i=5 \/ i=6:=by omega
  all_goals (injection ho with ho;subst ho)
  ·have hx1:A.tmps[1]?.getD undef = .pointer (some ⟨gx,0,none⟩):=hk 1 (by rfl)
   go_simp
   exact ⟨rfl,Below.refl _ _⟩
  ·have hs:A.tmps[8]?.getD undef = .pointer (some ⟨gx,2,none⟩):=he 0 (by kernel_rfl)
   have cc:=hR.box.cell 2;go_simp
   exact ⟨rfl,Below.refl _ _⟩
  ·have hx1:A.tmps[1]?.getD undef = .pointer (some ⟨gx,0,none⟩):=hk 1 (by rfl)
   go_simp
   exact ⟨rfl,Below.refl _ _⟩
  ·have hs:A.tmps[10]?.getD undef = .pointer (some ⟨gx,3,none⟩):=he 2 (by kernel_rfl)
   have cc:=hR.box.cell 3;go_simp
   exact ⟨rfl,Below.refl _ _⟩
  ·have hs:A.tmps[11]?.getD undef=(.slice pa la.length ca):=he 3 (by kernel_rfl)
   go_simp
   refine Calls.mono (mO la (.slice pa la.length ca) W hR.v.ask) ?_;rintro e' w' ⟨p,rfl,ht,hb⟩;exact ⟨_,rfl,⟨p,rfl,ht⟩,hb⟩
  ·have h1:A.tmps[9]?.getD undef = .bool al:=he 1 (by kernel_rfl)
   obtain ⟨pp,h4,ht1⟩:Ie (iT la) (A.tmps[12]?.getD undef) W:=he 4 (by kernel_rfl);go_simp
   exact ⟨⟨pp,rfl,ht1⟩,Below.refl _ _⟩
  ·go_simp
   exact ⟨⟨_,rfl,hW.size,Sits.new _ _ _⟩,(Below.refl _ _).alloc (Nat.le_refl _) _⟩
 ·intro xs W hW hV
  obtain ⟨pp,e5,ht1⟩:Kt al (iT la) (xs 5) W:=hV 5 (by simp);obtain ⟨go,e6,hgo,hsb⟩:OX wa.heap.size (xs 6) W:=hV 6 (by simp);have hR:=HR.out.below hW;have Q8:=hid hsb;have hkeep:=FW W go al pp;have hlow:Below w.heap.size w (vR W go al pp):=HB0.out.trans (behind (hW.mono HB0.out.size) hkeep (Nat.le_trans HB0.out.size hW.size) (fun x e=>by rw [e];exact Nat.le_trans HB0.out.size hgo));have hst:Stable 159 W (vR W go al pp):=Stable.keeps hkeep fun x cs hx e=>hx.differ hsb (by decide) e
  have hbe:Below wa.heap.size wa (vR W go al pp):=behind hW hkeep hW.size (fun x e=>by rw [e];exact hgo);have HRl:=hid (HR.out.below hbe)
  have HM:=hid (show Cc w go [] [] al (iT la) (.slice none 0 0) (.slice none 0 0) pp (vR W go al pp) from
   ⟨hlow,Lr al pp hsb,Nat.le_trans HB0.out.size hgo,World.ownsRow_nil _ _ _ _,⟨[],World.ownsRow_nil _ _ _ _,rfl,fun i b u h=>by simp at h⟩,ht1.stable hst,by have:=hbe.size;have:=HW2.out;omega⟩)
  have fH:=hid (show gr≠go by have:=HR.out.res.lt;omega);simp only [List.length_cons,List.length_nil,Nat.zero_add,Nat.reduceAdd,List.drop_succ_cons,List.drop_zero,gZ,Act.put,List.setIfInBounds_toArray,List.set_cons_zero,List.set_cons_succ,e5,e6]
  clear hV hW e5 e6 ht1 hsb hgo hR hkeep hlow hst hbe;refine wpList_store_row rfl 27 _ _ rfl go (dI (.slice none 0 0) (.slice none 0 0) al pp) rfl rfl 27 uG Q8.out OZ rfl (JN _ _ _ _ _ _ _ _) ?_;change wpList _ _ _ _ _ (vR W go al pp);generalize vR W go al pp=W2 at HM HRl ⊢;clear Q8 HR HB0;obtain ⟨i0,hi0,hz0,hz1,hz2⟩:=info_parts UU;go_wp2_with fail
  go_loopg [4] li.length (fun gg v4 wx=>∃ (k:Nat) (v0:Value),k<=li.length/\gg=li.length - k/\v4 = .int .i64 (k:Nat)/\Hid (Cc w go (li.take k) [] al (iT la) v0 (.slice none 0 0) pp wx)/\Hid (vU w gx gr #[.slice pi li.length ci,.slice pt lt.length ct,.bool al,.slice pa la.length ca] ⟨li,lt,al,la⟩ (.slice pi li.length ci) (.slice pt lt.length ct) (.slice pa la.length ca) wx))
  case atStart=>exact ⟨0,.slice none 0 0,by omega,by omega,rfl,HM,HRl⟩
  case round =>
   obtain ⟨k,v0,hk,rfl,rfl,HM,HR⟩:=hrel;have hxb:=HR.out.box;have c0:=hxb.c0;have lx:=hxb.lt;by_cases hkl:k<li.length
   ·have hx:li[k]? = some li[k]:=List.getElem?_eq_getElem hkl
    generalize li[k]=x at hx;obtain ⟨g,o,cap',e1,d0,d1⟩:=HR.out.old.init.at hx;injection e1 with e1 _ e2;subst e1 e2;have X7:g<w.heap.size:=World.block_lt_of_cell? _ _ d0;have d0:wr.cell? ⟨g,o+k * 2,none⟩=some (.int .u8 x.1):=(HM.out.low.cell (p:=⟨g,o+k * 2,none⟩) X7).trans d0;have d1:wr.cell? ⟨g,o+k * 2+1,none⟩=some (.int .u64 x.2):=(HM.out.low.cell (p:=⟨g,o+k * 2+1,none⟩) X7).trans d1;have hgb:=HM.out.box;have hlk:(li.take k).length=k:=by rw [List.length_take];omega
    have b0:=hgb.c0;have f0:wr.frozen? ⟨go,0,none⟩=false:=hgb.free 0;have lgo:=hgb.lt;have lg:g<wr.heap.size:=Nat.lt_of_lt_of_le X7 HM.out.low.size;have m1:(k:Int)<(li.length:Int):=by omega
    have m2:(0:Int)<=(k:Int):=by omega
    have hown:=HM.out.init;rw [hlk] at hown;have HW:=hid hown;have afx:=aK hown hxb (by decide);have Xr:=aK hown hgb (by decide);have afg:v0.ownBlock≠some g:=fun e=>by have:=(hown.lt g e).1;omega
    have HX:=hid hx;have HK:=hid hkl;clear hxb hgb hx hkl hk hlk hown;have Q9:w.heap.size<=wr.heap.size:=HM.out.low.size;have fz:∀ ob,(wr.alloc ob).drew.frozen? ⟨go,0,none⟩=false:=fun ob=>(HM.out.box.alloc ob).drew.free 0
    have k3:(k:Int)<=1000:=by omega
    go_wp2_with fail
    have HKO:=hid (show aa (fun y=>v0.ownBlock=some y \/ y=go) wr (wr.alloc (.cells #[.int .u8 x.1,.int .u64 x.2] 78)).drew from ((aa.refl _ _).alloc _).drew);have HLK:=hid (show (li.take k).length=k by have:=HK.out;rw [List.length_take];omega);have Ru:Hid (Sits wr go 27 (dI v0 (.slice none 0 0) al pp)):=hid HM.out.box;have nx:gx≠go:=fun e=>by have:=HR.out.box.differ HM.out.box (by decide);exact this e
    have ng:g≠go:=by have:=HM.out.gB;omega
    have iW:=hid HR.out.box;have HD0:=hid d0;have HD1:=hid d1;clear c0 d0 d1 b0 f0;refine oN kE [21,22,23,24,25,26,27,28,29,30,31,32,33,34,35,36,37,38] [aV (.pointer (some ⟨go,0,none⟩)),aV v0,aV (.pointer (some ⟨gx,0,none⟩)),aV (.slice (some ⟨g,o,none⟩) li.length ci),aV (.int .i64 (k:Nat)),aV (.pointer (some ⟨g,o+k * 2,none⟩)),aV (.pointer (some ⟨g,o+k * 2,none⟩)),aV (.int .u8 x.1),aV (.pointer (some ⟨gx,0,none⟩)),aV (.slice (some ⟨g,o,none⟩) li.length ci),aV (.int .i64 (k:Nat)),aV (.pointer (some ⟨g,o+k * 2,none⟩)),aV (.pointer (some ⟨g,o+k * 2+1,none⟩)),aV (.int .u64 x.2),aV (.agg #[.int .u8 x.1,.int .u64 x.2]),uh 78 1 #[.int .u8 x.1,.int .u64 x.2],fun _ _=>True,aV (.pointer (some ⟨go,0,none⟩))] 16 [(17,.pointer (some ⟨go,0,none⟩))]
     (fun u W'=>∃ gg cap,u = .slice (some ⟨gg,0,none⟩) (k+1) cap/\W'.ownsRow w.heap.size 78 2 u (k+1) ((li.take k).flatMap aX ++ aX x)/\aa (fun y=>v0.ownBlock=some y \/ y=go) wr W' /\ Sits W' go 27 (dI v0 (.slice none 0 0) al pp)) (fun _ _=>False)
     (by kernel_rfl) (by kernel_rfl) (by kernel_rfl) (by kernel_rfl) (by rfl) ?_ ?_ ?_ ?_ (fun _ _ _ h=>h.elim) ?_
    ·simp only [List.mem_cons,List.not_mem_nil,or_false,forall_eq_or_imp,forall_eq]
     refine ⟨?_,?_,?_,?_,?_,?_,?_,?_,?_,?_,?_,?_,?_,?_,?_,?_,?_,?_⟩ <;> first | exact dx _ | (intro u w w' h hb;obtain ⟨gr',hu,hs⟩:=h;exact ⟨gr',hu,hs.below hb hs.lt⟩) | exact fun _ _ _ _ _=>trivial
    ·intro i o' hi hia ho A W hW hk he
     simp only [List.length_cons,List.length_nil,Nat.zero_add,Nat.reduceAdd] at hi
     have VW:=iW.out.below hW iW.out.lt;have hBG:=Ru.out.below hW Ru.out.lt;have hD0:W.cell? ⟨g,o+k * 2,none⟩=some (.int .u8 x.1):=(hW.cell (p:=⟨g,o+k * 2,none⟩) lg).trans HD0.out;have hD1:W.cell? ⟨g,o+k * 2+1,none⟩=some (.int .u64 x.2):=(hW.cell (p:=⟨g,o+k * 2+1,none⟩) lg).trans HD1.out;obtain rfl | rfl | rfl | rfl | rfl | rfl | rfl | rfl | rfl | rfl | rfl | rfl | rfl | rfl | rfl | rfl | rfl | rfl:i=0 \/ i=1 \/ i=2 \/ i=3 \/ i=4 \/ i=5 \/ i=6 \/ i=7 \/ i=8 \/ i=9 \/ i=10 \/ i=11 \/ i=12 \/ i=13 \/ i=14 \/ i=15 \/ i=16 \/ i=17:=by omega
     all_goals (injection ho with ho;subst ho)
     ·have t3:A.tmps[3]?.getD undef = .pointer (some ⟨go,0,none⟩):=hk 3 (by rfl)
      go_simp
      exact ⟨rfl,Below.refl _ _⟩
     ·have s21:A.tmps[21]?.getD undef=(.pointer (some ⟨go,0,none⟩)):=he 0 (by kernel_rfl)
      have cc:=hBG.cell 0;unfold dI at cc;go_simp
      exact ⟨rfl,Below.refl _ _⟩
     ·have t1:A.tmps[1]?.getD undef = .pointer (some ⟨gx,0,none⟩):=hk 1 (by rfl)
      go_simp
      exact ⟨rfl,Below.refl _ _⟩
     ·have s23:A.tmps[23]?.getD undef=(.pointer (some ⟨gx,0,none⟩)):=he 2 (by kernel_rfl)
      have cc:=VW.cell 0;go_simp
      exact ⟨rfl,Below.refl _ _⟩
     ·have t4:A.tmps[4]?.getD undef = .int .i64 (k:Nat):=hk 4 (by rfl)
      go_simp
      exact ⟨rfl,Below.refl _ _⟩
     ·have s24:A.tmps[24]?.getD undef=(.slice (some ⟨g,o,none⟩) li.length ci):=he 3 (by kernel_rfl)
      have s25:A.tmps[25]?.getD undef=(.int .i64 (k:Nat)):=he 4 (by kernel_rfl);go_simp
      exact ⟨rfl,Below.refl _ _⟩
     ·have s26:A.tmps[26]?.getD undef=(.pointer (some ⟨g,o+k * 2,none⟩)):=he 5 (by kernel_rfl)
      go_simp
      exact ⟨rfl,Below.refl _ _⟩
     ·have s27:A.tmps[27]?.getD undef=(.pointer (some ⟨g,o+k * 2,none⟩)):=he 6 (by kernel_rfl)
      have cc:=hD0;go_simp
      exact ⟨rfl,Below.refl _ _⟩
     ·have t1:A.tmps[1]?.getD undef = .pointer (some ⟨gx,0,none⟩):=hk 1 (by rfl)
      go_simp
      exact ⟨rfl,Below.refl _ _⟩
     ·have s29:A.tmps[29]?.getD undef=(.pointer (some ⟨gx,0,none⟩)):=he 8 (by kernel_rfl)
      have cc:=VW.cell 0;go_simp
      exact ⟨rfl,Below.refl _ _⟩
     ·have t4:A.tmps[4]?.getD undef = .int .i64 (k:Nat):=hk 4 (by rfl)
      go_simp
      exact ⟨rfl,Below.refl _ _⟩
     ·have Zj:A.tmps[30]?.getD undef=(.slice (some ⟨g,o,none⟩) li.length ci):=he 9 (by kernel_rfl)
      have X9:A.tmps[31]?.getD undef=(.int .i64 (k:Nat)):=he 10 (by kernel_rfl);go_simp
      exact ⟨rfl,Below.refl _ _⟩
     ·have s32:A.tmps[32]?.getD undef=(.pointer (some ⟨g,o+k * 2,none⟩)):=he 11 (by kernel_rfl)
      go_simp
      exact ⟨rfl,Below.refl _ _⟩
     ·have s33:A.tmps[33]?.getD undef=(.pointer (some ⟨g,o+k * 2+1,none⟩)):=he 12 (by kernel_rfl)
      have cc:=hD1;go_simp
      exact ⟨rfl,Below.refl _ _⟩
     ·have s28:A.tmps[28]?.getD undef=(.int .u8 x.1):=he 7 (by kernel_rfl)
      have s34:A.tmps[34]?.getD undef=(.int .u64 x.2):=he 13 (by kernel_rfl);go_simp
      exact ⟨rfl,Below.refl _ _⟩
     ·have s35:A.tmps[35]?.getD undef=(.agg #[.int .u8 x.1,.int .u64 x.2]):=he 14 (by kernel_rfl)
      go_simp
      exact ⟨⟨_,rfl,Sits.new _ _ _⟩,(Below.refl _ _).alloc (Nat.le_refl _) _⟩
     ·exact absurd rfl hia
     ·have t3:A.tmps[3]?.getD undef = .pointer (some ⟨go,0,none⟩):=hk 3 (by rfl)
      go_simp
      exact ⟨rfl,Below.refl _ _⟩
    ·intro o' _ ho A W hW hk he
     injection ho with ho;subst ho;have s22:A.tmps[22]?.getD undef=v0:=he 1 (by kernel_rfl);obtain ⟨gn,s36,hsn⟩:uh 78 1 #[.int .u8 x.1,.int .u64 x.2] (A.tmps[36]?.getD undef) W:=he 15 (by kernel_rfl);have hown:=kg HW.out (show aa (fun _=>False) wr W from aa.of_below hW) (fun _ _ h=>h)
     refine ⟨by rfl,wp_append_lies W (.tmp 22) (.tmp 36) 23 rfl w.heap.size 78 i0 _ 2 16 Tryz.underlying23 hi0 hz0 hz1 hz2 rfl (by omega) v0 k ((li.take k).flatMap aX) ((aU A 22).trans s22) hown ⟨gn,0,none⟩ 1 1 (aX x) ((aU A 36).trans s36) rfl (FV hsn) (OY x)
      (by omega) (by unfold maxLen;omega) (by omega) (by have:=hW.size;omega) W.heap.size rfl ?_⟩
     intro gg cap w1 hown1 hgrow hat hlt1;exact ⟨_,rfl,gg,cap,rfl,hown1,x9 (aa.of_below hW) hgrow (fun y h => .inl h),(Ru.out.below hW Ru.out.lt).grown hgrow Xr⟩
    ·intro q hq hlt o' ho
     obtain rfl:q=(17,.pointer (some ⟨go,0,none⟩)):=by simpa using hq
     injection ho with ho;subst ho;refine ⟨fun u w h=>h,fun A W hk=>?_⟩;have t3:A.tmps[3]?.getD undef = .pointer (some ⟨go,0,none⟩):=hk 3 (by rfl);refine ⟨by rfl,?_⟩;go_simp
    ·intro xs W _ hJ hP
     obtain ⟨gg,cap,e16,hown1,hk1,Ch⟩:=hJ (by decide);have e17:=hP (17,.pointer (some ⟨go,0,none⟩)) (List.mem_singleton.2 rfl) (show 17<18 by decide);simp only at e17
     have hHM:Hid (Cc w go (li.take (k+1)) [] al (iT la) (.slice (some ⟨gg,0,none⟩) (k+1) cap) (.slice none 0 0) pp (W.setCell ⟨go,0,none⟩ (.slice (some ⟨gg,0,none⟩) (k+1) cap))):=hid (by
      have hbx:=Ch.put 0 (.slice (some ⟨gg,0,none⟩) (k+1) cap);have hk2:=hk1.put (p:=⟨go,0,none⟩) (.inl (.inr rfl)) (.slice (some ⟨gg,0,none⟩) (k+1) cap);have ho2:=kg (e16 ▸ hown1) ((aa.refl (fun y=>y=go) W).put (p:=⟨go,0,none⟩) (.inl rfl) (.slice (some ⟨gg,0,none⟩) (k+1) cap)) (fun y hy hx=>by subst hx;exact aK (e16 ▸ hown1) Ch (by decide) hy);have:=HM.out.OA (x:=x) hk2 (by rw [HLK.out];exact ho2) hbx
      rwa [Al HX.out] at this)
     have hRS:=hid (show vU w gx gr _ _ _ _ _ (W.setCell ⟨go,0,none⟩ (.slice (some ⟨gg,0,none⟩) (k+1) cap)) from HR.out.keeps (hk1.put (p:=⟨go,0,none⟩) (.inl (.inr rfl)) _) HM.out.low (fun y hy=>by
      rcases hy with hy | rfl
      ·exact (HW.out.lt y hy).1
      ·exact HM.out.gB) (fun h=>by rcases h with h | h <;> contradiction) (fun h=>by
      rcases h with h | h
      ·exact aK HW.out HR.out.res (by decide) h
      ·exact fH.out h))
     have c1:=Ch.c0;have f1:=Ch.free 0;have l1:=Ch.lt;simp only [List.length_cons,List.length_nil,Nat.zero_add,Nat.reduceAdd,List.drop_succ_cons,List.drop_zero,gZ,Act.put,List.setIfInBounds_toArray,List.set_cons_zero,List.set_cons_succ,e16,e17]
     clear hJ hP hown1 hk1 Ch e16 e17 afx Xr afg;go_wp2_with fail
     go_roundg (li.length - (k+1))
     case measure=>have:=HK.out;omega
     case rel=>exact ⟨k+1,_,HK.out,rfl,by go_num,hHM,hRS⟩
   ·obtain rfl:k=li.length:=by omega
    have m1:¬ ((li.length:Int)<(li.length:Int)):=by omega
    have hM:Cc w go li ((lt.take 0).map mP) al (iT la) v0 (.slice none 0 0) pp wr:=by have h:=HM.out;rw [List.take_length] at h;exact h
    have HM:=hid hM;clear hxb hkl hk hM;go_wp2_with fail
    clear c0 lx m1 hi0 hz0 hz1 hz2;obtain ⟨i1,hi0,hz0,hz1,hz2⟩:=info_parts UW
    go_loopg [5] lt.length (fun gg v5 wx=>∃ (k:Nat) (v1:Value),k<=lt.length/\gg=lt.length - k/\v5 = .int .i64 (k:Nat)/\Hid (Cc w go li ((lt.take k).map mP) al (iT la) v0 v1 pp wx)/\Hid (vU w gx gr #[.slice pi li.length ci,.slice pt lt.length ct,.bool al,.slice pa la.length ca] ⟨li,lt,al,la⟩ (.slice pi li.length ci) (.slice pt lt.length ct) (.slice pa la.length ca) wx))
    case atStart=>exact ⟨0,.slice none 0 0,by omega,by omega,rfl,HM,HR⟩
    case round =>
     obtain ⟨k,v1,hk,rfl,rfl,HM,HR⟩:=hrel;have hxb:=HR.out.box;have c0:=hxb.c1;have lx:=hxb.lt;by_cases hkl:k<lt.length
     ·have hx:lt[k]? = some lt[k]:=List.getElem?_eq_getElem hkl
      generalize lt[k]=l at hx;obtain ⟨g,o,cap',u,e1,_,hc,hm⟩:=HR.out.v.threads.at hx;injection e1 with e1 _ e2;subst e1 e2;obtain ⟨pl,cl,rfl,hll⟩:=hm.len;have lg:=World.block_lt_of_cell? _ _ hc;have m1:(k:Int)<(lt.length:Int):=by omega
      have m2:(0:Int)<=(k:Int):=by omega
      have ZI:=hid (show Calls _ _ #[_,.int .i64 (0:Int)] wr _ from KW l (Vn.out.each l (List.mem_of_getElem? hx)) (l.length+1) 0 (qU l) (mP l) (by omega) (zA l) (Nr hll).1 _ wr hm);have HX:=hid hx;have HK:=hid hkl;clear hxb hx hm hll hkl hk;go_wp2_with fail
      refine ZI.out.mono ?_;rintro e w2 ⟨u,rfl,hst,hb⟩;have wL:=hid (HM.out.below hb);have HR2:=hid (HR.out.below hb);have HST:=hid (HM.out.made hst);obtain ⟨vs,hv1,hv2,hv3⟩:=wL.out.row;have hlk:((lt.take k).map mP).length=k:=by have:=HK.out;rw [List.length_map,List.length_take];omega
      have hgb:=wL.out.box;have b1:=hgb.c1;have lgo:=hgb.lt;obtain ⟨pu,cu,rfl,_⟩:=hst.len;have HV1:=hid hv1;have YH:=hid hv2;have HV3:=hid hv3;have HLK:=hid hlk;have hown:=hv1;rw [hlk] at hown;have HW:=hid hown;have Q9:w.heap.size<=w2.heap.size:=wL.out.low.size;have k3:(k:Int)<=1000:=by omega
      have HBG:=hid hgb;have Xr:=aK hown hgb (by decide);clear hst hb hv1 hv2 hv3 hlk hgb hown c0 hc lx lg;go_wp2_with (at_builtin;refine wpList_append_lies _ rfl _ _ 24 rfl w.heap.size 80 i1 (.slice none 0 0) 1 24 Tryz.underlying24 hi0 hz0 hz1 hz2 rfl (by omega) v1 k vs rfl (HW.out.alloc _) ⟨w2.heap.size,0,none⟩ 1 1 [.slice pu (mP l).len cu] rfl rfl (FV (Sits.new w2 _ _)) (by simp [Value.oneCell']) (by omega) (by unfold maxLen;omega) (by omega) (by simp;omega) (w2.heap.size+1) (by simp) ?_)
      intro g' Ls w3 hown3 hgrow hat hlt3;have hk3:aa (fun y=>v1.ownBlock=some y \/ y=go) w2 w3:=x9 ((aa.refl _ _).alloc _) hgrow (fun y h => .inl h);have hb3:=(HBG.out.alloc (.cells #[.slice pu (mP l).len cu] 80)).grown hgrow Xr
      have HM3:Hid (Cc w go li ((lt.take (k+1)).map mP) al (iT la) v0 (.slice (some ⟨g',0,none⟩) (k+1) Ls) pp (w3.setCell ⟨go,1,none⟩ (.slice (some ⟨g',0,none⟩) (k+1) Ls))):=hid (by
       have hbx:=hb3.put 1 (.slice (some ⟨g',0,none⟩) (k+1) Ls);have hk4:=hk3.put (p:=⟨go,1,none⟩) (.inl (.inr rfl)) (.slice (some ⟨g',0,none⟩) (k+1) Ls);have ho2:=kg hown3 ((aa.refl (fun y=>y=go) w3).put (p:=⟨go,1,none⟩) (.inl rfl) (.slice (some ⟨g',0,none⟩) (k+1) Ls)) (fun y hy hx=>by subst hx;exact aK hown3 hb3 (by decide) hy)
       have:=wL.out.OB (b:=mP l) HST.out hk4 HV1.out YH.out HV3.out (by rw [HLK.out];exact ho2) (fun y hy=>by
        have hy:g' = y:=by simpa [Value.ownBlock] using hy
        subst hy
        exact hat.imp id (fun h=>by omega)) hbx
       rw [<- Al HX.out,List.map_append]
       exact this)
      have hRS:=hid (show vU w gx gr _ _ _ _ _ (w3.setCell ⟨go,1,none⟩ (.slice (some ⟨g',0,none⟩) (k+1) Ls)) from HR2.out.keeps (hk3.put (p:=⟨go,1,none⟩) (.inl (.inr rfl)) _) wL.out.low (fun y hy=>by
       rcases hy with hy | rfl
       ·exact (HW.out.lt y hy).1
       ·exact wL.out.gB) (fun h=>by
       rcases h with h | h
       ·exact aK HW.out HR2.out.box (by decide) h
       ·exact HR2.out.box.differ wL.out.box (by decide) h) (fun h=>by
       rcases h with h | h
       ·exact aK HW.out HR2.out.res (by decide) h
       ·exact fH.out h))
      have d1:=hb3.c1;have d2:=hb3.free 1;have d3:=hb3.lt;clear hown3 hgrow hat hlt3 hk3 hb3 b1 lgo Xr;go_wp2_with fail
      go_roundg (lt.length - (k+1))
      case measure=>have:=HK.out;omega
      case rel=>exact ⟨k+1,_,HK.out,rfl,by go_num,HM3,hRS⟩
     ·obtain rfl:k=lt.length:=by omega
      have m1:¬ ((lt.length:Int)<(lt.length:Int)):=by omega
      have hM:Cc w go li (lt.map mP) al (iT la) v0 v1 pp wr:=by have h:=HM.out;rw [List.take_length] at h;exact h
      have HM:=hid hM;clear hxb hkl hk hM;go_upto_region 11 with fail
      clear c0 lx m1;obtain ⟨p0,q0,hv0⟩:=kC HM.out.init;obtain ⟨vs,hv1,hv2,hv3⟩:=HM.out.row;obtain ⟨p1,q1,a0p⟩:=kC hv1;subst hv0 a0p;have hgb:=HM.out.box;unfold dI at hgb;have b0:=hgb.cell 0;have b1:=hgb.cell 1;have b2:=hgb.cell 2;have b3:=hgb.cell 3;have lgo:=hgb.lt;have Xt:=hid HR.out.res;have lgr:=HR.out.res.lt;have Xu:=hid (fun W' (k:aa (fun x=>x=gr) wr W')=>HM.out.final HR.out.res HR.out.rB fH.out k (by omega) (by rw [List.length_map];omega));have hml:(lt.map mP).length=lt.length:=List.length_map _;rw [hml] at b1 Xu;clear hgb hv1 hv2 hv3 hml HM HR;go_wp2_with (refine wpList_store_row rfl 27 _ _ rfl gr (dI (.slice p0 li.length q0) (.slice p1 lt.length q1) al pp) rfl rfl 27 uG Xt.out OZ rfl (JN _ _ _ _ _ _ _ _) ?_)
      have hk:aa (fun x=>x=gr) wr (wr.setRow gr (dI (.slice p0 li.length q0) (.slice p1 lt.length q1) al pp)):=⟨rfl,rfl,rfl,by simp [World.setRow],fun x _ hx=>setRow_other wr gr x _ hx⟩
      have hs4:Sits (wr.setRow gr (dI (.slice p0 li.length q0) (.slice p1 lt.length q1) al pp)) gr 27 (dI (.slice p0 li.length q0) (.slice p1 lt.length q1) al pp):=setRow_heap wr gr _ _ _ _ Xt.out;have HF:=hid (Xu.out _ hk);generalize wr.setRow gr (dI (.slice p0 li.length q0) (.slice p1 lt.length q1) al pp)=W4 at hs4 HF ⊢;unfold dI at hs4;have r0:=hs4.cell 0;have r1:=hs4.cell 1;have r2:=hs4.cell 2;have r3:=hs4.cell 3;clear hk b0 b1 b2 b3;refine bodyPost_ret (v:=.agg #[.slice p0 li.length q0,.slice p1 lt.length q1,.bool al,.pointer pp]) (by simp [results,Tryz.results8,go_sem,r0,r1,r2,r3]) rfl ⟨_,_,_,rfl,HF.out.1,HF.out.2⟩
end Go.Proofs.YtaanhmndeobgbaaGreatDoor.Prog
