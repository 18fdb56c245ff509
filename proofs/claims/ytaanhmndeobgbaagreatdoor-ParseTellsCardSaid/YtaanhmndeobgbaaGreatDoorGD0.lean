/- Part 31 of the proof: what is used of the texts StmL. -/
import Derived.Test.YtaanhmndeobgbaaGreatDoorGC0
import Derived.Test.YtaanhmndeobgbaaGreatDoorGB2
import Derived.Deep.AppendLies
import Derived.Laws.Tables
import Derived.Test.YtaanhmndeobgbaaGreatDoorGA9
set_option maxRecDepth 100000
set_option maxHeartbeats 4000000
namespace Go.Proofs.YtaanhmndeobgbaaGreatDoor.Prog
open Go.RowKit Mem Go.Proofs.YtaanhmndeobgbaaGreatDoor.Expr ae Go.Lib
theorem Holds.snoc {U:Nat->Prop} {w:World} {m:Mk} {t e:az} {av bv tv ev:Value} (ha:Tree w (kr m.a) av) (hb:Tree w (kr m.b) bv) (ht:aR U w t tv) (he:aR U w e ev) :
  ∀ {q:az} {cs:List Value},Holds U w q cs->Holds U w (q.snoc m t e) (cs ++ eQ m av bv tv ev):=by
 intro q;induction q with
 | nil =>
  intro cs h;obtain rfl:cs=[]:=h;obtain ⟨ct,h1,h2⟩:=ht;obtain ⟨ce,h3,h4⟩:=he;exact ⟨av,bv,tv,ev,ct,ce,[],by simp,ha,hb,h1,h2,h3,h4,rfl⟩
 | cons m' t' e' r' _ _ ih =>
  intro cs h;obtain ⟨Sk,Sl,tv',ev',ct,ce,cr,rfl,h1,h2,h3,h4,h5,h6,h7⟩:=h;exact ⟨Sk,Sl,tv',ev',ct,ce,_,List.append_assoc _ _ _,h1,h2,h3,h4,h5,h6,ih h7⟩
def mW (B:Nat) (w:World) (q:az) (v:Value):Prop:=∃ cs,w.ownsRow B 119 8 v q.len cs/\Holds (fun g=>B<=g/\g<w.heap.size/\v.ownBlock≠some g) w q cs
def fresh (B:Nat) (w:World):Nat->Prop:=fun g=>B<=g/\g<w.heap.size
section
variable {B : Nat} {w w' : World} {q : az} {v : Value}
theorem mW.nil (B:Nat) (w:World):mW B w .nil (.slice none 0 0):=⟨[],World.ownsRow_nil _ _ _ _,rfl⟩
theorem mW.below (h:mW B w q v) (hb:Below w.heap.size w w'):mW B w' q v:=by
 obtain ⟨cs,h1,h2⟩:=h;exact ⟨cs,h1.kept (row:=none) ⟨hb.os,hb.tape,hb.output,hb.size,fun k hk _=>hb.block k hk⟩ (by cases hv:v.ownBlock <;> simp),(h2.below hb).wider fun g ⟨g1,g2,g3⟩=>⟨g1,Nat.lt_of_lt_of_le g2 hb.size,g3⟩⟩
theorem mW.slice (h:mW B w q v):∃ p cap,v = .slice p q.len cap:=by
 obtain ⟨cs,h1,_⟩:=h;exact kC h1
theorem mW.lt (h:mW B w q v):∀ g,v.ownBlock=some g->g<w.heap.size:=by
 obtain ⟨cs,h1,_⟩:=h;intro g hg;rcases h1.2 with ⟨rfl,_⟩ | ⟨g',cap,cur,rfl,_,hh,_⟩
 ·simp [Value.ownBlock] at hg
 ·have:g' = g:=by simpa [Value.ownBlock] using hg
  subst this;exact lt_of_block hh
theorem mW.stand (h:mW B w q v) (hl:q.len<=1000000):aR (fresh B w) w q v:=by
 obtain ⟨cs,h1,h2⟩:=h;refine ⟨cs,?_,h2.wider fun g ⟨g1,g2,_⟩=>⟨g1,g2⟩⟩;rcases h1.2 with ⟨rfl,h0⟩ | ⟨g,cap,cur,rfl,hB,hh,_,_,_,_⟩
 ·exact .inl ⟨h0,none,0,rfl⟩
 ·refine .inr ⟨g,0,cap,rfl,⟨hB,lt_of_block hh⟩,hl,fun j u hu=>?_⟩
  have:=h1.cells (g:=g) rfl j u hu;rw [Nat.zero_add];have e:(⟨g,0,none⟩:Addr).add j=⟨g,j,none⟩:=by unfold Addr.add;by_cases hj:j=0 <;> simp [hj]
  rwa [e] at this
theorem mW.append {m:Mk} {t e:az} {av bv tv ev v':Value} {cs:List Value} {g' cap:Nat} (h1:w.ownsRow B 119 8 v q.len cs) (h2:Holds (fun g=>B<=g/\g<w.heap.size/\v.ownBlock≠some g) w q cs)
  (ha:Tree w (kr m.a) av) (hb:Tree w (kr m.b) bv) (ht:aR (fun g=>B<=g/\g<w.heap.size/\v.ownBlock≠some g) w t tv) (he:aR (fun g=>B<=g/\g<w.heap.size/\v.ownBlock≠some g) w e ev)
  (hv':v' = .slice (some ⟨g',0,none⟩) (q.len+1) cap) (hown:w'.ownsRow B 119 8 v' (q.len+1) (cs ++ eQ m av bv tv ev)) (hg:w.grownBy w' v.ownBlock) (hat:v.ownBlock=some g' \/ w.heap.size<=g'):mW B w' (q.snoc m t e) v':=by
 refine ⟨cs ++ eQ m av bv tv ev,by rw [az.iG];exact hown,?_⟩;have h3:=Holds.snoc ha hb ht he h2;have hst:Stable 159 w w':=fun g cs' hs=>(hg.block g hs.lt (fun he=>aK h1 hs (by decide) he.symm)).trans hs
 refine (h3.keep hst (fun g ⟨g1,g2,g3⟩ j u hu=>?_)).wider fun g ⟨g1,g2,g3⟩=>⟨g1,Nat.lt_of_lt_of_le g2 hg.size,?_⟩
 ·rw [World.cell?_of_block (hg.block g g2 (fun e=>g3 e.symm))];exact hu
 ·subst hv'
  simp only [Value.ownBlock,ne_eq,Option.some.injEq]
  rcases hat with h | h
  ·intro e;subst e;exact g3 h
  ·omega
end
def iK (B:Nat) (W:World) (v:Value) (g:Nat):Nat->Prop:=fun x=>B<=x/\x<W.heap.size/\v.ownBlock≠some x/\x≠g
def aC (m:Mk) (pa pb:Option Addr) (tv ev:Value):Array Value:=#[.int .u8 m.kind,.int .u8 m.reg,.int .u8 m.mode,.int .u8 m.loc,.pointer pa,.pointer pb,tv,ev]
structure BR (w0:World) (q:az) (v:Value) (g:Nat) (m:Mk) (pa pb:Option Addr) (t e:az) (tv ev:Value) (W:World):Prop where
 low:Below w0.heap.size w0 W
 outs:∃ cs,W.ownsRow w0.heap.size 119 8 v q.len cs/\Holds (iK w0.heap.size W v g) W q cs
 box:Sits W g 119 (aC m pa pb tv ev)
 gB:w0.heap.size<=g
 own:v.ownBlock≠some g
 a:Tree W (kr m.a) (.pointer pa)
 b:Tree W (kr m.b) (.pointer pb)
 t:aR (iK w0.heap.size W v g) W t tv
 e:aR (iK w0.heap.size W v g) W e ev
theorem iV {B:Nat} {W W':World} {v:Value} {g:Nat} (h:W.heap.size<=W'.heap.size):∀ x,iK B W v g x->iK B W' v g x:=fun _ ⟨h1,h2,h3,h4⟩=>⟨h1,Nat.lt_of_lt_of_le h2 h,h3,h4⟩
theorem aR.nil (U:Nat->Prop) (w:World):aR U w .nil (.slice none 0 0):=⟨[],.inl ⟨rfl,none,0,rfl⟩,rfl⟩
section
variable {w0 W W' : World} {q : az} {v : Value} {g : Nat} {m : Mk} {pa pb : Option Addr} {t e : az} {tv ev : Value}
theorem BR.below (h:BR w0 q v g m pa pb t e tv ev W) (hb:Below W.heap.size W W'):BR w0 q v g m pa pb t e tv ev W':=by
 obtain ⟨cs,h1,h2⟩:=h.outs
 exact ⟨h.low.trans (hb.mono h.low.size),⟨cs,h1.kept (row:=none) ⟨hb.os,hb.tape,hb.output,hb.size,fun k hk _=>hb.block k hk⟩ (by cases hv:v.ownBlock <;> simp),(h2.below hb).wider (iV hb.size)⟩,
  h.box.below hb h.box.lt,h.gB,h.own,h.a.below hb,h.b.below hb,(h.t.below hb).wider (iV hb.size),(h.e.below hb).wider (iV hb.size)⟩
theorem jZ (W:World) (p:Addr) (u:Value):(W.setCell p u).heap.size=W.heap.size:=by simp [World.setCell]
theorem mX {B:Nat} {g:Nat} {i:Nat} {u:Value}:∀ x,iK B W v g x->∀ j y,W.cell? ⟨x,j,none⟩=some y->(W.setCell ⟨g,i,none⟩ u).cell? ⟨x,j,none⟩=some y:=fun x ⟨_,_,_,hx⟩ j y hy=>by
 rw [World.cell?_of_block (Below.heap_setCell W ⟨g,i,none⟩ u x hx)];exact hy
theorem BR.Oi (h:BR w0 q v g m pa pb t e tv ev W) {c:az} {u:Value} (hc:aR (iK w0.heap.size W v g) W c u):BR w0 q v g m pa pb c e u ev (W.setCell ⟨g,6,none⟩ u):=by
 obtain ⟨cs,h1,h2⟩:=h.outs;have hs:Stable 159 W (W.setCell ⟨g,6,none⟩ u):=Stable.put h.box (by decide) 6 u;have hz:∀ x,iK w0.heap.size W v g x->iK w0.heap.size (W.setCell ⟨g,6,none⟩ u) v g x:=iV (by rw [jZ];exact Nat.le_refl _)
 exact ⟨h.low.setCell (p:=⟨g,6,none⟩) h.gB _,⟨cs,h1.kept (row:=some g) ⟨rfl,rfl,rfl,by rw [jZ];exact Nat.le_refl _,fun k _ hk=>Below.heap_setCell _ _ _ _ (fun e=>hk (by rw [e]))⟩ (.inr h.own),(h2.keep hs mX).wider hz⟩,
  h.box.put 6 u,h.gB,h.own,h.a.stable hs,h.b.stable hs,(hc.keep hs mX).wider hz,(h.e.keep hs mX).wider hz⟩
theorem BR.Um (h:BR w0 q v g m pa pb t e tv ev W) {c:az} {u:Value} (hc:aR (iK w0.heap.size W v g) W c u):BR w0 q v g m pa pb t c tv u (W.setCell ⟨g,7,none⟩ u):=by
 obtain ⟨cs,h1,h2⟩:=h.outs;have hs:Stable 159 W (W.setCell ⟨g,7,none⟩ u):=Stable.put h.box (by decide) 7 u;have hz:∀ x,iK w0.heap.size W v g x->iK w0.heap.size (W.setCell ⟨g,7,none⟩ u) v g x:=iV (by rw [jZ];exact Nat.le_refl _)
 exact ⟨h.low.setCell (p:=⟨g,7,none⟩) h.gB _,⟨cs,h1.kept (row:=some g) ⟨rfl,rfl,rfl,by rw [jZ];exact Nat.le_refl _,fun k _ hk=>Below.heap_setCell _ _ _ _ (fun e=>hk (by rw [e]))⟩ (.inr h.own),(h2.keep hs mX).wider hz⟩,
  h.box.put 7 u,h.gB,h.own,h.a.stable hs,h.b.stable hs,(h.t.keep hs mX).wider hz,(hc.keep hs mX).wider hz⟩
theorem BR.WK (h:BR w0 q v g m pa pb t e tv ev W):∀ x,v.ownBlock=some x->x<W.heap.size:=by
 obtain ⟨cs,h1,_⟩:=h.outs;intro x hx;rcases h1.2 with ⟨rfl,_⟩ | ⟨g',cap,cur,rfl,_,hh,_⟩
 ·simp [Value.ownBlock] at hx
 ·have:g' = x:=by simpa [Value.ownBlock] using hx
  subst this;exact lt_of_block hh
theorem BR.made (h:BR w0 q v g m pa pb t e tv ev W) {c:az} {u:Value} (_:Below W.heap.size W W') (hc:aR (fresh W.heap.size W') W' c u):aR (iK w0.heap.size W' v g) W' c u :=
 hc.wider fun x ⟨h1,h2⟩=>⟨Nat.le_trans h.low.size h1,h2,fun e=>by have:=h.WK x e;omega,by have:=h.box.lt;omega⟩
end
def cK:Array Value:=#[.int .u8 0,.int .u8 0,.int .u8 0,.int .u8 0,.pointer none,.pointer none,.slice none 0 0,.slice none 0 0]
def laid (W:World) (g:Nat) (m:Mk) (pa pb:Option Addr):World:=W.setRow g (aC m pa pb (.slice none 0 0) (.slice none 0 0))
theorem Oj {W:World} {g:Nat} (m:Mk) (pa pb:Option Addr) (h:Sits W g 119 cK):Sits (laid W g m pa pb) g 119 (aC m pa pb (.slice none 0 0) (.slice none 0 0)):=setRow_heap W g _ _ _ _ h
theorem mY (W:World) (g:Nat) (m:Mk) (pa pb:Option Addr):aa (fun x=>x=g) W (laid W g m pa pb):=⟨rfl,rfl,rfl,by simp [laid,World.setRow],fun x _ hx=>setRow_other W g x _ hx⟩
theorem BR.start {w0 wr W:World} {q:az} {v:Value} {g:Nat} {m:Mk} {pa pb:Option Addr} (h:mW w0.heap.size wr q v) (hlow:Below w0.heap.size w0 wr) (hb:Below wr.heap.size wr W) (hg:wr.heap.size<=g) (hs:Sits W g 119 cK)
  (ha:Tree W (kr m.a) (.pointer pa)) (hbb:Tree W (kr m.b) (.pointer pb)):BR w0 q v g m pa pb .nil .nil (.slice none 0 0) (.slice none 0 0) (laid W g m pa pb):=by
 have hol:=h.lt;obtain ⟨cs,h1,h2⟩:=h;have hb2:Below wr.heap.size wr (laid W g m pa pb):=behind hb (mY W g m pa pb) hb.size (fun x e=>by rw [e];exact hg);have hst:Stable 159 W (laid W g m pa pb):=Stable.keeps (mY W g m pa pb) fun x cs hx e=>hx.differ hs (by decide) e
 have hsz:=hb2.size
 refine ⟨hlow.trans (hb2.mono hlow.size),⟨cs,h1.kept (row:=none) ⟨hb2.os,hb2.tape,hb2.output,hb2.size,fun k hk _=>hb2.block k hk⟩ (by cases hv:v.ownBlock <;> simp),(h2.below hb2).wider fun x ⟨h1,h2,h3⟩=>⟨h1,Nat.lt_of_lt_of_le h2 hsz,h3,by omega⟩⟩,
  Oj m pa pb hs,Nat.le_trans hlow.size hg,fun e=>by have:=hol g e;omega,ha.stable hst,hbb.stable hst,aR.nil _ _,aR.nil _ _⟩
theorem BR.done {w0 W w':World} {q:az} {v v':Value} {g g' cap:Nat} {m:Mk} {pa pb:Option Addr} {t e:az} {tv ev:Value} {cs:List Value} (h:BR w0 q v g m pa pb t e tv ev W) (h1:W.ownsRow w0.heap.size 119 8 v q.len cs) (h2:Holds (iK w0.heap.size W v g) W q cs)
  (hv':v' = .slice (some ⟨g',0,none⟩) (q.len+1) cap) (hown:w'.ownsRow w0.heap.size 119 8 v' (q.len+1) (cs ++ eQ m (.pointer pa) (.pointer pb) tv ev)) (hg:W.grownBy w' v.ownBlock) (hat:v.ownBlock=some g' \/ W.heap.size<=g'):mW w0.heap.size w' (q.snoc m t e) v' :=
 mW.append h1 (h2.wider fun _ ⟨a,b,c,_⟩=>⟨a,b,c⟩) h.a h.b (h.t.wider fun _ ⟨a,b,c,_⟩=>⟨a,b,c⟩) (h.e.wider fun _ ⟨a,b,c,_⟩=>⟨a,b,c⟩) hv' hown hg hat
def Ie (e0:Option Ex):Value->World->Prop:=fun u W=>∃ p,u = .pointer p/\Tree W (kr e0) (.pointer p)
theorem vJ (e0:Option Ex):yc (Ie e0):=fun _ _ _ ⟨p,hu,ht⟩ hb=>⟨p,hu,ht.below hb⟩
def Un (m:Mk):Value->World->Prop:=fun u W=>∃ p q,u=kZ m (.pointer p) (.pointer q) (.slice none 0 0) (.slice none 0 0)/\Tree W (kr m.a) (.pointer p)/\Tree W (kr m.b) (.pointer q)
theorem zV (m:Mk):yc (Un m):=fun _ _ _ ⟨p,q,hu,h1,h2⟩ hb=>⟨p,q,hu,h1.below hb,h2.below hb⟩
def C8 (B:Nat):Value->World->Prop:=fun u W=>∃ g,u = .pointer (some ⟨g,0,none⟩)/\B<=g/\Sits W g 119 cK
theorem wW (B:Nat):yc (C8 B):=fun _ _ _ ⟨g,hu,hB,hs⟩ hb=>⟨g,hu,hB,hs.below hb hs.lt⟩
theorem qh:(Tryz.prog.info? 119).map (·.size)=some 8:=by kernel_rfl
theorem Ol:(Tryz.prog.info? 119).map (fun i=>(i.zero,i.size,i.bytes))=some (some (.agg cK),8,72):=by kernel_rfl
theorem DF (m:Mk) (pa pb:Option Addr) (p q:Option Addr) (n c n' c':Nat):∀ u ∈ eQ m (.pointer pa) (.pointer pb) (.slice p n c) (.slice q n' c'),u.oneCell' = true:=by
 intro u hu;simp only [eQ,List.mem_cons,List.not_mem_nil,or_false] at hu
 rcases hu with rfl | rfl | rfl | rfl | rfl | rfl | rfl | rfl <;> rfl
theorem Om (W:World) (m:Mk) (av bv tv ev:Value):∀ j u,(eQ m av bv tv ev)[j]? = some u->(W.alloc (.cells #[.int .u8 m.kind,.int .u8 m.reg,.int .u8 m.mode,.int .u8 m.loc,av,bv,tv,ev] 119)).cell? ((⟨W.heap.size,0,none⟩:Addr).add j)=some u:=by
 intro j u hj;have e:(⟨W.heap.size,0,none⟩:Addr).add j=⟨W.heap.size,j,none⟩:=by unfold Addr.add;by_cases h:j=0 <;> simp [h]
 rw [e,(Sits.new W _ _).cell];simpa [eQ] using hj
theorem lX (m:Mk) (pa pb:Option Addr) (p q:Option Addr) (n c n' c':Nat):(aC m pa pb (.slice p n c) (.slice q n' c')).all (·.oneCell')=true:=by
 rw [Array.all_eq_true'];intro u hu;simp only [aC,List.mem_toArray,List.mem_cons,List.not_mem_nil,or_false] at hu
 rcases hu with rfl | rfl | rfl | rfl | rfl | rfl | rfl | rfl <;> rfl
theorem Oo (W:World) (n:Nat) (hn:W.heap.size=n) (m:Mk) (av bv tv ev:Value):∀ j u,(eQ m av bv tv ev)[j]? = some u->(W.alloc (.cells #[.int .u8 m.kind,.int .u8 m.reg,.int .u8 m.mode,.int .u8 m.loc,av,bv,tv,ev] 119)).cell? ((⟨n,0,none⟩:Addr).add j)=some u:=by
 subst hn;exact Om W m av bv tv ev
def wX (b:az) (m:Nat) (w:World) (e:Ending) (w':World):Prop:=∃ v,e = .returned (.tuple #[v,.int .i64 (m:Nat)])/\aR (fresh w.heap.size w') w' b v/\Below w.heap.size w w'
def yg (W:World) (x:Mark) (av bv:Value):World:=W.alloc (.cells #[.int .u8 x.kind,.int .u8 x.reg,.int .u8 x.mode,.int .u8 x.loc,av,bv] 132)
theorem Ig (l:List Mark) (hbd:∀ x ∈ l,x.bd) (k m:Nat) (b:az) (hb:qH l k b m) (hm:m<=10000000) (v:Value) (w:World) (hv:wT w v l)
  (IH:k<l.length->∀ (j:Nat) (c:az) (i:Nat),k<j->qH l j c i->i<=10000000->∀ W,Below w.heap.size w W->Calls Tryz.prog 26 #[v,.int .i64 (j:Nat)] W (wX c i W)) :
  Calls Tryz.prog 26 #[v,.int .i64 (k:Nat)] w (wX b m w):=by
 obtain ⟨i0,hi0,hz0,hz1,hz2⟩:=info_parts Ol;have L9:=hid hb;have HV:=hid hv;have Ef:=hid IH;have Vn:=hid hbd;have HM:=hid hm;obtain ⟨p,cap,rfl,hl⟩:=hv.len;have i1:(l.length:Int)<=1000000:=by omega
 clear hv IH hbd hb hm;go_enter Tryz.func26,Tryz.ntmps26;go_wp2_with fail
 go_loopg [1,6] (l.length - k) (fun gg v1 v6 wx=>∃ (q r:az) (j:Nat),gg=l.length - j/\k<=j/\v1 = .int .i64 (j:Nat)/\Hid (b=q.app r)/\Hid (qH l j r m)/\Hid (mW w.heap.size wx q v6)/\Hid (Below w.heap.size w wx))
 case atStart=>exact ⟨az.nil,b,k,rfl,Nat.le_refl _,rfl,hid rfl,L9,hid (mW.nil _ _),hid (Below.refl _ _)⟩
 case round =>
  obtain ⟨q,r,j,rfl,hkj,rfl,HE,HR,HO,HB⟩:=hrel;have hle:=HR.out.le;have jm:(j:Int)<=10000000:=by have:=HM.out;omega
  have j0:(0:Int)<=(j:Int):=by omega
  obtain ⟨p6,c6,rfl⟩:=HO.out.slice;rcases HR.out.inv with ⟨hx,rfl,rfl⟩ | ⟨x,hx,h0,rfl,rfl⟩ | ⟨x,r',hx,h0,h8,h9,hr',rfl⟩ | ⟨x,t,i,r',hx,h9,ht,hr',rfl⟩ | ⟨x,t,i,e,i',r',hx,h8,ht,he,hr',rfl⟩
  ·-- the row has ended
   have hle2:l.length<=m:=List.getElem?_eq_none_iff.1 hx;have j1:¬ ((m:Int)<(l.length:Int)):=by omega
   have HST:=hid (show aR (fresh w.heap.size wr) wr b (.slice p6 q.len c6) by
    have h:=HO.out.stand (by
     have h1:=congrArg az.len HE.out;rw [az.nG] at h1;have h2:=b.qV;have h3:=L9.out.le
     omega)
    rw [HE.out,az.uT];exact h)
   clear hx hle hle2;go_wp2_with fail
   go_ret2;exact ⟨_,rfl,HST.out,HB.out⟩
  ·-- the end of a block
   obtain ⟨g,o,cap',av,bv,e1,hlt,hmk⟩:=(HV.out.below HB.out).at hx;injection e1 with e1 _ e2;subst e1 e2;have d0:=hmk.1;have lg:=World.block_lt_of_cell? _ _ d0;have j1:(m:Int)<(l.length:Int):=by omega
   have HST:=hid (show aR (fresh w.heap.size wr) wr b (.slice p6 q.len c6) by
    have h:=HO.out.stand (by
     have h1:=congrArg az.len HE.out;rw [az.nG] at h1;have h2:=b.qV;have h3:=L9.out.le
     omega)
    rw [HE.out,az.uT];exact h)
   rw [h0] at d0;clear hx hle hmk;go_wp2_with fail
   go_ret2;exact ⟨_,rfl,HST.out,HB.out⟩
  ·-- a plain statement
   obtain ⟨g,o,cap',av,bv,e1,hlt,hmk⟩:=(HV.out.below HB.out).at hx;injection e1 with e1 _ e2;subst e1 e2;obtain ⟨d0,d1,d2,d3,d4,d5,hra,hrb⟩:=hmk;obtain ⟨pa,ca,rfl,_⟩:=hra.len;obtain ⟨pb,cb,rfl,_⟩:=hrb.len;have lg:=World.block_lt_of_cell? _ _ d0;have j1:(j:Int)<(l.length:Int):=by omega
   have ek:((x.kind:Int) == 0)=false:=beq_eq_false_iff_ne.2 (by omega);have ek':((x.kind:Int) != 0)=true:=by rw [bne,ek];rfl
   have hmb:Below wr.heap.size wr (yg wr x (.slice pa x.a.length ca) (.slice pb x.b.length cb)):=(Below.refl _ _).alloc (Nat.le_refl _) _;have JC:=hid hmb;have HXB:Hid (Sits (yg wr x (.slice pa x.a.length ca) (.slice pb x.b.length cb)) wr.heap.size 132 #[.int .u8 x.kind,.int .u8 x.reg,.int .u8 x.mode,.int .u8 x.loc,.slice pa x.a.length ca,.slice pb x.b.length cb]):=hid (Sits.new _ _ _);have WL:=hid (fun W (h:Below wr.heap.size wr W)=>mO x.a (.slice pa x.a.length ca) W (hra.below h));have WM:=hid (fun W (h:Below wr.heap.size wr W)=>mO x.b (.slice pb x.b.length cb) W (hrb.below h));have jY:=hid HO.out;have Q7:q.len<=1000000:=by
    have h1:=congrArg az.len HE.out;rw [az.nG] at h1;have h2:=b.qV;have h3:=L9.out.le;omega
   have WN:=hid Q7;have sP:=hid hlt;have Oq:=hid hkj;clear hra hrb hmb hx Q7 hlt hkj;have k8:((x.kind:Int) == 8)=false:=beq_eq_false_iff_ne.2 (by omega);have k9:((x.kind:Int) == 9)=false:=beq_eq_false_iff_ne.2 (by omega);have TV:=hid hr';clear hr' h0 h8 h9 hle;go_wp2_with fail
   change Code.wp _ _ _ _ (yg wr x (.slice pa x.a.length ca) (.slice pb x.b.length cb));generalize yg wr x (.slice pa x.a.length ca) (.slice pb x.b.length cb)=wa at JC HXB ⊢;have pX:=hid JC.out.size;generalize hxb:wr.heap.size=xb at HXB ⊢;have HxB:=hid hxb;clear hxb
   refine nJ [26,27,28,29,30,31,32,33,34,35,36,37,38,39,40,8] [aV (.pointer (some ⟨xb,0,none⟩)),aV (.int .u8 (x.kind:Nat)),aV (.pointer (some ⟨xb,1,none⟩)),aV (.int .u8 (x.reg:Nat)),aV (.pointer (some ⟨xb,2,none⟩)),aV (.int .u8 (x.mode:Nat)),
    aV (.pointer (some ⟨xb,3,none⟩)),aV (.int .u8 (x.loc:Nat)),aV (.pointer (some ⟨xb,4,none⟩)),aV (.slice pa x.a.length ca),Ie (iT x.a),aV (.pointer (some ⟨xb,5,none⟩)),aV (.slice pb x.b.length cb),Ie (iT x.b),Un (eP x),C8 wa.heap.size]
    (by kernel_rfl) (by kernel_rfl) (by kernel_rfl) (by rfl) (by simp only [List.mem_cons,List.not_mem_nil,or_false,forall_eq_or_imp,forall_eq];refine ⟨?_,?_,?_,?_,?_,?_,?_,?_,?_,?_,?_,?_,?_,?_,?_,?_⟩ <;> first | exact eH _ | exact vJ _ | exact zV _ | exact wW _) ?_ ?_
   ·intro i o hi ho A W hW hk he
    simp only [List.length_cons,List.length_nil,Nat.zero_add,Nat.reduceAdd] at hi
    have BS:=HXB.out.below hW HXB.out.lt;have Sw:=JC.out.trans (hW.mono pX.out);obtain rfl | rfl | rfl | rfl | rfl | rfl | rfl | rfl | rfl | rfl | rfl | rfl | rfl | rfl | rfl | rfl:i=0 \/ i=1 \/ i=2 \/ i=3 \/ i=4 \/ i=5 \/ i=6 \/ i=7 \/ i=8 \/ i=9 \/ i=10 \/ i=11 \/ i=12 \/ i=13 \/ i=14 \/ i=15:=by omega
    all_goals (injection ho with ho;subst ho)
    ·have hx7:A.tmps[7]?.getD undef = .pointer (some ⟨xb,0,none⟩):=hk 7 (by rfl)
     go_simp
     exact ⟨rfl,Below.refl _ _⟩
    ·have hs:A.tmps[26]?.getD undef = .pointer (some ⟨xb,0,none⟩):=he 0 (by kernel_rfl)
     have cc:=BS.cell 0;go_simp
     exact ⟨rfl,Below.refl _ _⟩
    ·have hx7:A.tmps[7]?.getD undef = .pointer (some ⟨xb,0,none⟩):=hk 7 (by rfl)
     go_simp
     exact ⟨rfl,Below.refl _ _⟩
    ·have hs:A.tmps[28]?.getD undef = .pointer (some ⟨xb,1,none⟩):=he 2 (by kernel_rfl)
     have cc:=BS.cell 1;go_simp
     exact ⟨rfl,Below.refl _ _⟩
    ·have hx7:A.tmps[7]?.getD undef = .pointer (some ⟨xb,0,none⟩):=hk 7 (by rfl)
     go_simp
     exact ⟨rfl,Below.refl _ _⟩
    ·have hs:A.tmps[30]?.getD undef = .pointer (some ⟨xb,2,none⟩):=he 4 (by kernel_rfl)
     have cc:=BS.cell 2;go_simp
     exact ⟨rfl,Below.refl _ _⟩
    ·have hx7:A.tmps[7]?.getD undef = .pointer (some ⟨xb,0,none⟩):=hk 7 (by rfl)
     go_simp
     exact ⟨rfl,Below.refl _ _⟩
    ·have hs:A.tmps[32]?.getD undef = .pointer (some ⟨xb,3,none⟩):=he 6 (by kernel_rfl)
     have cc:=BS.cell 3;go_simp
     exact ⟨rfl,Below.refl _ _⟩
    ·have hx7:A.tmps[7]?.getD undef = .pointer (some ⟨xb,0,none⟩):=hk 7 (by rfl)
     go_simp
     exact ⟨rfl,Below.refl _ _⟩
    ·have hs:A.tmps[34]?.getD undef = .pointer (some ⟨xb,4,none⟩):=he 8 (by kernel_rfl)
     have cc:=BS.cell 4;go_simp
     exact ⟨rfl,Below.refl _ _⟩
    ·have hs:A.tmps[35]?.getD undef=(.slice pa x.a.length ca):=he 9 (by kernel_rfl)
     go_simp
     refine Calls.mono (WL.out W Sw) ?_;rintro e' w' ⟨p,rfl,ht,hb⟩;exact ⟨_,rfl,⟨p,rfl,ht⟩,hb⟩
    ·have hx7:A.tmps[7]?.getD undef = .pointer (some ⟨xb,0,none⟩):=hk 7 (by rfl)
     go_simp
     exact ⟨rfl,Below.refl _ _⟩
    ·have hs:A.tmps[37]?.getD undef = .pointer (some ⟨xb,5,none⟩):=he 11 (by kernel_rfl)
     have cc:=BS.cell 5;go_simp
     exact ⟨rfl,Below.refl _ _⟩
    ·have hs:A.tmps[38]?.getD undef=(.slice pb x.b.length cb):=he 12 (by kernel_rfl)
     go_simp
     refine Calls.mono (WM.out W Sw) ?_;rintro e' w' ⟨p,rfl,ht,hb⟩;exact ⟨_,rfl,⟨p,rfl,ht⟩,hb⟩
    ·have h1:A.tmps[27]?.getD undef = .int .u8 (x.kind:Nat):=he 1 (by kernel_rfl)
     have h3:A.tmps[29]?.getD undef = .int .u8 (x.reg:Nat):=he 3 (by kernel_rfl);have h5:A.tmps[31]?.getD undef = .int .u8 (x.mode:Nat):=he 5 (by kernel_rfl);have h7:A.tmps[33]?.getD undef = .int .u8 (x.loc:Nat):=he 7 (by kernel_rfl);obtain ⟨pp,h10,ht1⟩:Ie (iT x.a) (A.tmps[36]?.getD undef) W:=he 10 (by kernel_rfl);obtain ⟨pq,Tp,ht2⟩:Ie (iT x.b) (A.tmps[39]?.getD undef) W:=he 13 (by kernel_rfl);go_simp
     exact ⟨⟨pp,pq,rfl,ht1,ht2⟩,Below.refl _ _⟩
    ·go_simp
     exact ⟨⟨_,rfl,hW.size,Sits.new _ _ _⟩,(Below.refl _ _).alloc (Nat.le_refl _) _⟩
   ·intro xs W hW hV
    obtain ⟨pp,pq,e14,ht1,ht2⟩:Un (eP x) (xs 14) W:=hV 14 (by simp);obtain ⟨gs,e15,hgs,hsb⟩:C8 wa.heap.size (xs 15) W:=hV 15 (by simp);have hRs:=BR.start (m:=eP x) jY.out HB.out (JC.out.trans (hW.mono pX.out)) (Nat.le_trans pX.out hgs) hsb ht1 ht2;have JD:=hid hRs;have Sy:=hid (HXB.out.below hW HXB.out.lt);have hne:xb≠gs:=by have:=HXB.out.lt;omega
    have A9:=hid (Sy.out.keep (mY W gs (eP x) pp pq) hne);have Q8:=hid hsb;unfold kZ at e14;simp only [List.length_cons,List.length_nil,Nat.zero_add,Nat.reduceAdd,List.drop_succ_cons,List.drop_zero,gZ,Act.put,List.setIfInBounds_toArray,List.set_cons_zero,List.set_cons_succ,e14,e15]
    clear hV hW e14 e15 ht1 ht2 hsb hRs hgs d0 d1 d2 d3 d4 d5 lg hne;refine wpList_store_row rfl 119 _ _ rfl gs (aC (eP x) pp pq (.slice none 0 0) (.slice none 0 0)) rfl rfl 119 cK Q8.out qh rfl (lX _ _ _ _ _ _ _ _ _) ?_;change wpList _ _ _ _ _ (laid W gs (eP x) pp pq);generalize laid W gs (eP x) pp pq=W2 at JD A9 ⊢;have cx:=A9.out.cell 0;have lx:=A9.out.lt;have hbx:=JD.out.box;unfold aC at hbx;have b0:=hbx.cell 0;have b1:=hbx.cell 1;have b2:=hbx.cell 2;have b3:=hbx.cell 3;have b4:=hbx.cell 4;have b5:=hbx.cell 5;have b6:=hbx.cell 6;have b7:=hbx.cell 7;have Z8:=hbx.lt;have Ot:=JD.out.below ((Below.refl _ _).alloc (Nat.le_refl _) (.cells #[.int .u8 (eP x).kind,.int .u8 (eP x).reg,.int .u8 (eP x).mode,.int .u8 (eP x).loc,.pointer pp,.pointer pq,.slice none 0 0,.slice none 0 0] 119));have SA:=hid Ot;obtain ⟨cs,hown,rP⟩:=Ot.outs;have zW:=hid rP;have HOW:=hid hown;have Q9:w.heap.size<=W2.heap.size:=JD.out.low.size;have Z9:=WN.out;clear hbx Q8 Sy Ot rP;go_wp2_with (at_builtin;refine wpList_append_lies _ rfl _ _ 80 rfl w.heap.size 119 i0 (.agg cK) 8 72 Tryz.underlying80 hi0 hz0 hz1 hz2 rfl (by omega) _ q.len cs rfl hown ⟨W2.heap.size,0,none⟩ 1 1 (eQ (eP x) (.pointer pp) (.pointer pq) (.slice none 0 0) (.slice none 0 0)) rfl rfl (Om _ _ _ _ _ _) (DF _ _ _ _ _ _ _ _ _) (by omega) (by unfold maxLen;omega) (by omega) (by simp;omega) (W2.heap.size+1) (by simp) ?_)
    intro g' cap' w3 hown3 hgrow hat hlt3;have Pv:=hid (SA.out.done HOW.out zW.out rfl hown3 hgrow (hat.imp id (fun h=>by rw [h];simp)));have BA:=hid (show Below w.heap.size w w3 from (SA.out.low.grown hgrow (by simp;omega) (fun k hk=>(HOW.out.lt k hk).1)));clear hown3 hgrow hat hlt3 hown;go_wp2_with fail
    go_roundg (l.length - (j+1))
    case measure=>have:=sP.out;omega
    case rel=>exact ⟨q.snoc (eP x) .nil .nil,r',j+1,rfl,by have:=Oq.out;omega,by go_num,hid (by rw [az.kR];exact HE.out),TV,Pv,BA⟩
  ·-- a While
   obtain ⟨g,o,cap',av,bv,e1,hlt,hmk⟩:=(HV.out.below HB.out).at hx;injection e1 with e1 _ e2;subst e1 e2;obtain ⟨d0,d1,d2,d3,d4,d5,hra,hrb⟩:=hmk;obtain ⟨pa,ca,rfl,_⟩:=hra.len;obtain ⟨pb,cb,rfl,_⟩:=hrb.len;have lg:=World.block_lt_of_cell? _ _ d0;have j1:(j:Int)<(l.length:Int):=by omega
   have ek:((x.kind:Int) == 0)=false:=beq_eq_false_iff_ne.2 (by omega);have ek':((x.kind:Int) != 0)=true:=by rw [bne,ek];rfl
   have hmb:Below wr.heap.size wr (yg wr x (.slice pa x.a.length ca) (.slice pb x.b.length cb)):=(Below.refl _ _).alloc (Nat.le_refl _) _;have JC:=hid hmb;have HXB:Hid (Sits (yg wr x (.slice pa x.a.length ca) (.slice pb x.b.length cb)) wr.heap.size 132 #[.int .u8 x.kind,.int .u8 x.reg,.int .u8 x.mode,.int .u8 x.loc,.slice pa x.a.length ca,.slice pb x.b.length cb]):=hid (Sits.new _ _ _);have WL:=hid (fun W (h:Below wr.heap.size wr W)=>mO x.a (.slice pa x.a.length ca) W (hra.below h));have WM:=hid (fun W (h:Below wr.heap.size wr W)=>mO x.b (.slice pb x.b.length cb) W (hrb.below h));have jY:=hid HO.out;have Q7:q.len<=1000000:=by
    have h1:=congrArg az.len HE.out;rw [az.nG] at h1;have h2:=b.qV;have h3:=L9.out.le;omega
   have WN:=hid Q7;have sP:=hid hlt;have Oq:=hid hkj;clear hra hrb hmb hx Q7 hlt hkj;have k8:((x.kind:Int) == 8)=false:=beq_eq_false_iff_ne.2 (by omega);have k9:((x.kind:Int) == 9)=true:=by rw [h9];rfl
   have TV:=hid hr';have hti:=ht.le;have hri:=hr'.le;have Pw:=hid (show j+1<=i by omega);have HIT:=hid (fun W (h:Below w.heap.size w W)=>(show Calls _ _ #[_,.int .i64 ((j:Int)+1)] W _ from Ef.out (by have:=sP.out;have:=Oq.out;omega) (j+1) t i (by have:=Oq.out;omega) ht (by have:=HM.out;omega) W h));have ji:(i:Int)<=10000000:=by have:=HM.out;omega
   have ji0:(0:Int)<=(i:Int):=by omega
   clear hr' h9 hle ht hti hri;go_wp2_with fail
   change Code.wp _ _ _ _ (yg wr x (.slice pa x.a.length ca) (.slice pb x.b.length cb));generalize yg wr x (.slice pa x.a.length ca) (.slice pb x.b.length cb)=wa at JC HXB ⊢;have pX:=hid JC.out.size;generalize hxb:wr.heap.size=xb at HXB ⊢;have HxB:=hid hxb;clear hxb
   refine nJ [26,27,28,29,30,31,32,33,34,35,36,37,38,39,40,8] [aV (.pointer (some ⟨xb,0,none⟩)),aV (.int .u8 (x.kind:Nat)),aV (.pointer (some ⟨xb,1,none⟩)),aV (.int .u8 (x.reg:Nat)),aV (.pointer (some ⟨xb,2,none⟩)),aV (.int .u8 (x.mode:Nat)),
    aV (.pointer (some ⟨xb,3,none⟩)),aV (.int .u8 (x.loc:Nat)),aV (.pointer (some ⟨xb,4,none⟩)),aV (.slice pa x.a.length ca),Ie (iT x.a),aV (.pointer (some ⟨xb,5,none⟩)),aV (.slice pb x.b.length cb),Ie (iT x.b),Un (eP x),C8 wa.heap.size]
    (by kernel_rfl) (by kernel_rfl) (by kernel_rfl) (by rfl) (by simp only [List.mem_cons,List.not_mem_nil,or_false,forall_eq_or_imp,forall_eq];refine ⟨?_,?_,?_,?_,?_,?_,?_,?_,?_,?_,?_,?_,?_,?_,?_,?_⟩ <;> first | exact eH _ | exact vJ _ | exact zV _ | exact wW _) ?_ ?_
   ·intro i o hi ho A W hW hk he
    simp only [List.length_cons,List.length_nil,Nat.zero_add,Nat.reduceAdd] at hi
    have BS:=HXB.out.below hW HXB.out.lt;have Sw:=JC.out.trans (hW.mono pX.out);obtain rfl | rfl | rfl | rfl | rfl | rfl | rfl | rfl | rfl | rfl | rfl | rfl | rfl | rfl | rfl | rfl:i=0 \/ i=1 \/ i=2 \/ i=3 \/ i=4 \/ i=5 \/ i=6 \/ i=7 \/ i=8 \/ i=9 \/ i=10 \/ i=11 \/ i=12 \/ i=13 \/ i=14 \/ i=15:=by omega
    all_goals (injection ho with ho;subst ho)
    ·have hx7:A.tmps[7]?.getD undef = .pointer (some ⟨xb,0,none⟩):=hk 7 (by rfl)
     go_simp
     exact ⟨rfl,Below.refl _ _⟩
    ·have hs:A.tmps[26]?.getD undef = .pointer (some ⟨xb,0,none⟩):=he 0 (by kernel_rfl)
     have cc:=BS.cell 0;go_simp
     exact ⟨rfl,Below.refl _ _⟩
    ·have hx7:A.tmps[7]?.getD undef = .pointer (some ⟨xb,0,none⟩):=hk 7 (by rfl)
     go_simp
     exact ⟨rfl,Below.refl _ _⟩
    ·have hs:A.tmps[28]?.getD undef = .pointer (some ⟨xb,1,none⟩):=he 2 (by kernel_rfl)
     have cc:=BS.cell 1;go_simp
     exact ⟨rfl,Below.refl _ _⟩
    ·have hx7:A.tmps[7]?.getD undef = .pointer (some ⟨xb,0,none⟩):=hk 7 (by rfl)
     go_simp
     exact ⟨rfl,Below.refl _ _⟩
    ·have hs:A.tmps[30]?.getD undef = .pointer (some ⟨xb,2,none⟩):=he 4 (by kernel_rfl)
     have cc:=BS.cell 2;go_simp
     exact ⟨rfl,Below.refl _ _⟩
    ·have hx7:A.tmps[7]?.getD undef = .pointer (some ⟨xb,0,none⟩):=hk 7 (by rfl)
     go_simp
     exact ⟨rfl,Below.refl _ _⟩
    ·have hs:A.tmps[32]?.getD undef = .pointer (some ⟨xb,3,none⟩):=he 6 (by kernel_rfl)
     have cc:=BS.cell 3;go_simp
     exact ⟨rfl,Below.refl _ _⟩
    ·have hx7:A.tmps[7]?.getD undef = .pointer (some ⟨xb,0,none⟩):=hk 7 (by rfl)
     go_simp
     exact ⟨rfl,Below.refl _ _⟩
    ·have hs:A.tmps[34]?.getD undef = .pointer (some ⟨xb,4,none⟩):=he 8 (by kernel_rfl)
     have cc:=BS.cell 4;go_simp
     exact ⟨rfl,Below.refl _ _⟩
    ·have hs:A.tmps[35]?.getD undef=(.slice pa x.a.length ca):=he 9 (by kernel_rfl)
     go_simp
     refine Calls.mono (WL.out W Sw) ?_;rintro e' w' ⟨p,rfl,ht,hb⟩;exact ⟨_,rfl,⟨p,rfl,ht⟩,hb⟩
    ·have hx7:A.tmps[7]?.getD undef = .pointer (some ⟨xb,0,none⟩):=hk 7 (by rfl)
     go_simp
     exact ⟨rfl,Below.refl _ _⟩
    ·have hs:A.tmps[37]?.getD undef = .pointer (some ⟨xb,5,none⟩):=he 11 (by kernel_rfl)
     have cc:=BS.cell 5;go_simp
     exact ⟨rfl,Below.refl _ _⟩
    ·have hs:A.tmps[38]?.getD undef=(.slice pb x.b.length cb):=he 12 (by kernel_rfl)
     go_simp
     refine Calls.mono (WM.out W Sw) ?_;rintro e' w' ⟨p,rfl,ht,hb⟩;exact ⟨_,rfl,⟨p,rfl,ht⟩,hb⟩
    ·have h1:A.tmps[27]?.getD undef = .int .u8 (x.kind:Nat):=he 1 (by kernel_rfl)
     have h3:A.tmps[29]?.getD undef = .int .u8 (x.reg:Nat):=he 3 (by kernel_rfl);have h5:A.tmps[31]?.getD undef = .int .u8 (x.mode:Nat):=he 5 (by kernel_rfl);have h7:A.tmps[33]?.getD undef = .int .u8 (x.loc:Nat):=he 7 (by kernel_rfl);obtain ⟨pp,h10,ht1⟩:Ie (iT x.a) (A.tmps[36]?.getD undef) W:=he 10 (by kernel_rfl);obtain ⟨pq,Tp,ht2⟩:Ie (iT x.b) (A.tmps[39]?.getD undef) W:=he 13 (by kernel_rfl);go_simp
     exact ⟨⟨pp,pq,rfl,ht1,ht2⟩,Below.refl _ _⟩
    ·go_simp
     exact ⟨⟨_,rfl,hW.size,Sits.new _ _ _⟩,(Below.refl _ _).alloc (Nat.le_refl _) _⟩
   ·intro xs W hW hV
    obtain ⟨pp,pq,e14,ht1,ht2⟩:Un (eP x) (xs 14) W:=hV 14 (by simp);obtain ⟨gs,e15,hgs,hsb⟩:C8 wa.heap.size (xs 15) W:=hV 15 (by simp);have hRs:=BR.start (m:=eP x) jY.out HB.out (JC.out.trans (hW.mono pX.out)) (Nat.le_trans pX.out hgs) hsb ht1 ht2;have JD:=hid hRs;have Sy:=hid (HXB.out.below hW HXB.out.lt);have hne:xb≠gs:=by have:=HXB.out.lt;omega
    have A9:=hid (Sy.out.keep (mY W gs (eP x) pp pq) hne);have Q8:=hid hsb;have fH:=hid hne;unfold kZ at e14;simp only [List.length_cons,List.length_nil,Nat.zero_add,Nat.reduceAdd,List.drop_succ_cons,List.drop_zero,gZ,Act.put,List.setIfInBounds_toArray,List.set_cons_zero,List.set_cons_succ,e14,e15]
    clear hV hW e14 e15 ht1 ht2 hsb hRs hgs d0 d1 d2 d3 d4 d5 lg hne;refine wpList_store_row rfl 119 _ _ rfl gs (aC (eP x) pp pq (.slice none 0 0) (.slice none 0 0)) rfl rfl 119 cK Q8.out qh rfl (lX _ _ _ _ _ _ _ _ _) ?_;change wpList _ _ _ _ _ (laid W gs (eP x) pp pq);generalize laid W gs (eP x) pp pq=W2 at JD A9 ⊢;have cx:=A9.out.cell 0;have lx:=A9.out.lt;have hne:xb≠gs:=fH.out;go_wp2_with fail
    refine (HIT.out W2 JD.out.low).mono ?_;rintro e' W3 ⟨u,rfl,hst,hb⟩;have HR3:=hid (JD.out.below hb);have HR4:=hid (HR3.out.Oi (JD.out.made hb hst));obtain ⟨pu,cu,rfl,_⟩:=hst.len;have cx:=(A9.out.below hb A9.out.lt).cell 0;have lx:=(A9.out.below hb A9.out.lt).lt;have hbx:=HR3.out.box;unfold aC at hbx;have b0:=hbx.cell 0;have b1:=hbx.cell 1;have b2:=hbx.cell 2;have b3:=hbx.cell 3;have b4:=hbx.cell 4;have b5:=hbx.cell 5;have b6:=hbx.cell 6;have b7:=hbx.cell 7;have Z8:=hbx.lt;have f6:=hbx.free 6;clear hst hb hbx;have Ot:=HR4.out.below ((Below.refl _ _).alloc (Nat.le_refl _) (.cells #[.int .u8 (eP x).kind,.int .u8 (eP x).reg,.int .u8 (eP x).mode,.int .u8 (eP x).loc,.pointer pp,.pointer pq,(.slice pu t.len cu),(.slice none 0 0)] 119));have SA:=hid Ot;obtain ⟨cs,hown,rP⟩:=Ot.outs;have zW:=hid rP;have HOW:=hid hown;have hszW:=jZ W3 ⟨gs,6,none⟩ (.slice pu t.len cu);have Q9:w.heap.size<=W3.heap.size:=hszW ▸ HR4.out.low.size;have Z9:=WN.out;clear Ot rP;go_wp2_with (at_builtin;refine wpList_append_lies _ rfl _ _ 80 rfl w.heap.size 119 i0 (.agg cK) 8 72 Tryz.underlying80 hi0 hz0 hz1 hz2 rfl (by omega) _ q.len cs rfl hown ⟨W3.heap.size,0,none⟩ 1 1 (eQ (eP x) (.pointer pp) (.pointer pq) (.slice pu t.len cu) (.slice none 0 0)) rfl rfl (Oo _ _ hszW _ _ _ _ _) (DF _ _ _ _ _ _ _ _ _) (by omega) (by unfold maxLen;omega) (by omega) (by simp;omega) (W3.heap.size+1) (by simp) ?_)
    intro g' cap' w9 hown3 hgrow hat hlt3;have Pv:=hid (SA.out.done HOW.out zW.out rfl hown3 hgrow (hat.imp id (fun h=>by rw [h];simp)));have BA:=hid (show Below w.heap.size w w9 from (SA.out.low.grown hgrow (by simp;omega) (fun k hk=>(HOW.out.lt k hk).1)));clear hown3 hgrow hat hlt3 hown;go_wp2_with fail
    go_roundg (l.length - (i+1))
    case measure=>have:=sP.out;have:=Pw.out;omega
    case rel=>exact ⟨q.snoc (eP x) t .nil,r',i+1,rfl,by have:=Oq.out;have:=Pw.out;omega,by go_num,hid (by rw [az.kR];exact HE.out),TV,Pv,BA⟩
  ·-- an If
   obtain ⟨g,o,cap',av,bv,e1,hlt,hmk⟩:=(HV.out.below HB.out).at hx;injection e1 with e1 _ e2;subst e1 e2;obtain ⟨d0,d1,d2,d3,d4,d5,hra,hrb⟩:=hmk;obtain ⟨pa,ca,rfl,_⟩:=hra.len;obtain ⟨pb,cb,rfl,_⟩:=hrb.len;have lg:=World.block_lt_of_cell? _ _ d0;have j1:(j:Int)<(l.length:Int):=by omega
   have ek:((x.kind:Int) == 0)=false:=beq_eq_false_iff_ne.2 (by omega);have ek':((x.kind:Int) != 0)=true:=by rw [bne,ek];rfl
   have hmb:Below wr.heap.size wr (yg wr x (.slice pa x.a.length ca) (.slice pb x.b.length cb)):=(Below.refl _ _).alloc (Nat.le_refl _) _;have JC:=hid hmb;have HXB:Hid (Sits (yg wr x (.slice pa x.a.length ca) (.slice pb x.b.length cb)) wr.heap.size 132 #[.int .u8 x.kind,.int .u8 x.reg,.int .u8 x.mode,.int .u8 x.loc,.slice pa x.a.length ca,.slice pb x.b.length cb]):=hid (Sits.new _ _ _);have WL:=hid (fun W (h:Below wr.heap.size wr W)=>mO x.a (.slice pa x.a.length ca) W (hra.below h));have WM:=hid (fun W (h:Below wr.heap.size wr W)=>mO x.b (.slice pb x.b.length cb) W (hrb.below h));have jY:=hid HO.out;have Q7:q.len<=1000000:=by
    have h1:=congrArg az.len HE.out;rw [az.nG] at h1;have h2:=b.qV;have h3:=L9.out.le;omega
   have WN:=hid Q7;have sP:=hid hlt;have Oq:=hid hkj;clear hra hrb hmb hx Q7 hlt hkj;have k8:((x.kind:Int) == 8)=true:=by rw [h8];rfl
   have TV:=hid hr';have hti:=ht.le;have hei:=he.le;have hri:=hr'.le;have Pw:=hid (show j+1<=i' by omega);have HIT:=hid (fun W (h:Below w.heap.size w W)=>(show Calls _ _ #[_,.int .i64 ((j:Int)+1)] W _ from Ef.out (by have:=sP.out;have:=Oq.out;omega) (j+1) t i (by have:=Oq.out;omega) ht (by have:=HM.out;omega) W h));have HIE:=hid (fun W (h:Below w.heap.size w W)=>(show Calls _ _ #[_,.int .i64 ((i:Int)+1)] W _ from Ef.out (by have:=sP.out;have:=Oq.out;omega) (i+1) e i' (by have:=Oq.out;omega) he (by have:=HM.out;omega) W h));have ji:(i:Int)<=10000000:=by have:=HM.out;omega
   have ji0:(0:Int)<=(i:Int):=by omega
   have jj:(i':Int)<=10000000:=by have:=HM.out;omega
   have jj0:(0:Int)<=(i':Int):=by omega
   clear hr' h8 hle ht hti hri he hei;go_wp2_with fail
   change Code.wp _ _ _ _ (yg wr x (.slice pa x.a.length ca) (.slice pb x.b.length cb));generalize yg wr x (.slice pa x.a.length ca) (.slice pb x.b.length cb)=wa at JC HXB ⊢;have pX:=hid JC.out.size;generalize hxb:wr.heap.size=xb at HXB ⊢;have HxB:=hid hxb;clear hxb
   refine nJ [26,27,28,29,30,31,32,33,34,35,36,37,38,39,40,8] [aV (.pointer (some ⟨xb,0,none⟩)),aV (.int .u8 (x.kind:Nat)),aV (.pointer (some ⟨xb,1,none⟩)),aV (.int .u8 (x.reg:Nat)),aV (.pointer (some ⟨xb,2,none⟩)),aV (.int .u8 (x.mode:Nat)),
    aV (.pointer (some ⟨xb,3,none⟩)),aV (.int .u8 (x.loc:Nat)),aV (.pointer (some ⟨xb,4,none⟩)),aV (.slice pa x.a.length ca),Ie (iT x.a),aV (.pointer (some ⟨xb,5,none⟩)),aV (.slice pb x.b.length cb),Ie (iT x.b),Un (eP x),C8 wa.heap.size]
    (by kernel_rfl) (by kernel_rfl) (by kernel_rfl) (by rfl) (by simp only [List.mem_cons,List.not_mem_nil,or_false,forall_eq_or_imp,forall_eq];refine ⟨?_,?_,?_,?_,?_,?_,?_,?_,?_,?_,?_,?_,?_,?_,?_,?_⟩ <;> first | exact eH _ | exact vJ _ | exact zV _ | exact wW _) ?_ ?_
   ·intro i o hi ho A W hW hk he
    simp only [List.length_cons,List.length_nil,Nat.zero_add,Nat.reduceAdd] at hi
    have BS:=HXB.out.below hW HXB.out.lt;have Sw:=JC.out.trans (hW.mono pX.out);obtain rfl | rfl | rfl | rfl | rfl | rfl | rfl | rfl | rfl | rfl | rfl | rfl | rfl | rfl | rfl | rfl:i=0 \/ i=1 \/ i=2 \/ i=3 \/ i=4 \/ i=5 \/ i=6 \/ i=7 \/ i=8 \/ i=9 \/ i=10 \/ i=11 \/ i=12 \/ i=13 \/ i=14 \/ i=15:=by omega
    all_goals (injection ho with ho;subst ho)
    ·have hx7:A.tmps[7]?.getD undef = .pointer (some ⟨xb,0,none⟩):=hk 7 (by rfl)
     go_simp
     exact ⟨rfl,Below.refl _ _⟩
    ·have hs:A.tmps[26]?.getD undef = .pointer (some ⟨xb,0,none⟩):=he 0 (by kernel_rfl)
     have cc:=BS.cell 0;go_simp
     exact ⟨rfl,Below.refl _ _⟩
    ·have hx7:A.tmps[7]?.getD undef = .pointer (some ⟨xb,0,none⟩):=hk 7 (by rfl)
     go_simp
     exact ⟨rfl,Below.refl _ _⟩
    ·have hs:A.tmps[28]?.getD undef = .pointer (some ⟨xb,1,none⟩):=he 2 (by kernel_rfl)
     have cc:=BS.cell 1;go_simp
     exact ⟨rfl,Below.refl _ _⟩
    ·have hx7:A.tmps[7]?.getD undef = .pointer (some ⟨xb,0,none⟩):=hk 7 (by rfl)
     go_simp
     exact ⟨rfl,Below.refl _ _⟩
    ·have hs:A.tmps[30]?.getD undef = .pointer (some ⟨xb,2,none⟩):=he 4 (by kernel_rfl)
     have cc:=BS.cell 2;go_simp
     exact ⟨rfl,Below.refl _ _⟩
    ·have hx7:A.tmps[7]?.getD undef = .pointer (some ⟨xb,0,none⟩):=hk 7 (by rfl)
     go_simp
     exact ⟨rfl,Below.refl _ _⟩
    ·have hs:A.tmps[32]?.getD undef = .pointer (some ⟨xb,3,none⟩):=he 6 (by kernel_rfl)
     have cc:=BS.cell 3;go_simp
     exact ⟨rfl,Below.refl _ _⟩
    ·have hx7:A.tmps[7]?.getD undef = .pointer (some ⟨xb,0,none⟩):=hk 7 (by rfl)
     go_simp
     exact ⟨rfl,Below.refl _ _⟩
    ·have hs:A.tmps[34]?.getD undef = .pointer (some ⟨xb,4,none⟩):=he 8 (by kernel_rfl)
     have cc:=BS.cell 4;go_simp
     exact ⟨rfl,Below.refl _ _⟩
    ·have hs:A.tmps[35]?.getD undef=(.slice pa x.a.length ca):=he 9 (by kernel_rfl)
     go_simp
     refine Calls.mono (WL.out W Sw) ?_;rintro e' w' ⟨p,rfl,ht,hb⟩;exact ⟨_,rfl,⟨p,rfl,ht⟩,hb⟩
    ·have hx7:A.tmps[7]?.getD undef = .pointer (some ⟨xb,0,none⟩):=hk 7 (by rfl)
     go_simp
     exact ⟨rfl,Below.refl _ _⟩
    ·have hs:A.tmps[37]?.getD undef = .pointer (some ⟨xb,5,none⟩):=he 11 (by kernel_rfl)
     have cc:=BS.cell 5;go_simp
     exact ⟨rfl,Below.refl _ _⟩
    ·have hs:A.tmps[38]?.getD undef=(.slice pb x.b.length cb):=he 12 (by kernel_rfl)
     go_simp
     refine Calls.mono (WM.out W Sw) ?_;rintro e' w' ⟨p,rfl,ht,hb⟩;exact ⟨_,rfl,⟨p,rfl,ht⟩,hb⟩
    ·have h1:A.tmps[27]?.getD undef = .int .u8 (x.kind:Nat):=he 1 (by kernel_rfl)
     have h3:A.tmps[29]?.getD undef = .int .u8 (x.reg:Nat):=he 3 (by kernel_rfl);have h5:A.tmps[31]?.getD undef = .int .u8 (x.mode:Nat):=he 5 (by kernel_rfl);have h7:A.tmps[33]?.getD undef = .int .u8 (x.loc:Nat):=he 7 (by kernel_rfl);obtain ⟨pp,h10,ht1⟩:Ie (iT x.a) (A.tmps[36]?.getD undef) W:=he 10 (by kernel_rfl);obtain ⟨pq,Tp,ht2⟩:Ie (iT x.b) (A.tmps[39]?.getD undef) W:=he 13 (by kernel_rfl);go_simp
     exact ⟨⟨pp,pq,rfl,ht1,ht2⟩,Below.refl _ _⟩
    ·go_simp
     exact ⟨⟨_,rfl,hW.size,Sits.new _ _ _⟩,(Below.refl _ _).alloc (Nat.le_refl _) _⟩
   ·intro xs W hW hV
    obtain ⟨pp,pq,e14,ht1,ht2⟩:Un (eP x) (xs 14) W:=hV 14 (by simp);obtain ⟨gs,e15,hgs,hsb⟩:C8 wa.heap.size (xs 15) W:=hV 15 (by simp);have hRs:=BR.start (m:=eP x) jY.out HB.out (JC.out.trans (hW.mono pX.out)) (Nat.le_trans pX.out hgs) hsb ht1 ht2;have JD:=hid hRs;have Sy:=hid (HXB.out.below hW HXB.out.lt);have hne:xb≠gs:=by have:=HXB.out.lt;omega
    have A9:=hid (Sy.out.keep (mY W gs (eP x) pp pq) hne);have Q8:=hid hsb;have fH:=hid hne;unfold kZ at e14;simp only [List.length_cons,List.length_nil,Nat.zero_add,Nat.reduceAdd,List.drop_succ_cons,List.drop_zero,gZ,Act.put,List.setIfInBounds_toArray,List.set_cons_zero,List.set_cons_succ,e14,e15]
    clear hV hW e14 e15 ht1 ht2 hsb hRs hgs d0 d1 d2 d3 d4 d5 lg hne;refine wpList_store_row rfl 119 _ _ rfl gs (aC (eP x) pp pq (.slice none 0 0) (.slice none 0 0)) rfl rfl 119 cK Q8.out qh rfl (lX _ _ _ _ _ _ _ _ _) ?_;change wpList _ _ _ _ _ (laid W gs (eP x) pp pq);generalize laid W gs (eP x) pp pq=W2 at JD A9 ⊢;have cx:=A9.out.cell 0;have lx:=A9.out.lt;have hne:xb≠gs:=fH.out;go_wp2_with fail
    refine (HIT.out W2 JD.out.low).mono ?_;rintro e' W3 ⟨u,rfl,hst,hb⟩;have HR3:=hid (JD.out.below hb);have HR4:=hid (HR3.out.Oi (JD.out.made hb hst));obtain ⟨pu,cu,rfl,_⟩:=hst.len;have WO:=hid (A9.out.below hb A9.out.lt);have cx:=WO.out.cell 0;have lx:=(A9.out.below hb A9.out.lt).lt;have hbx:=HR3.out.box;unfold aC at hbx;have b0:=hbx.cell 0;have b1:=hbx.cell 1;have b2:=hbx.cell 2;have b3:=hbx.cell 3;have b4:=hbx.cell 4;have b5:=hbx.cell 5;have b6:=hbx.cell 6;have b7:=hbx.cell 7;have Z8:=hbx.lt;have f6:=hbx.free 6;clear hst hb hbx;go_wp2_with fail
    have a0D:=hid ((show Sits W3 xb 132 _ from WO.out).far (p:=⟨gs,6,none⟩) fH.out (.slice pu t.len cu));refine (HIE.out _ HR4.out.low).mono ?_;rintro e' W5 ⟨u',rfl,hst,hb⟩;have qE:=hid (HR4.out.below hb);have Pz:=hid (qE.out.Um (HR4.out.made hb hst));obtain ⟨pu',cu',rfl,_⟩:=hst.len;have hbx:=qE.out.box;unfold aC at hbx;have b0:=hbx.cell 0;have b1:=hbx.cell 1;have b2:=hbx.cell 2;have b3:=hbx.cell 3;have b4:=hbx.cell 4;have b5:=hbx.cell 5;have b6:=hbx.cell 6;have b7:=hbx.cell 7;have Z8:=hbx.lt;have f7:=hbx.free 7;clear hst hb hbx cx lx f6;have Ot:=Pz.out.below ((Below.refl _ _).alloc (Nat.le_refl _) (.cells #[.int .u8 (eP x).kind,.int .u8 (eP x).reg,.int .u8 (eP x).mode,.int .u8 (eP x).loc,.pointer pp,.pointer pq,(.slice pu t.len cu),(.slice pu' e.len cu')] 119));have SA:=hid Ot;obtain ⟨cs,hown,rP⟩:=Ot.outs;have zW:=hid rP;have HOW:=hid hown;have hszW:=jZ W5 ⟨gs,7,none⟩ (.slice pu' e.len cu');have Q9:w.heap.size<=W5.heap.size:=hszW ▸ Pz.out.low.size;have Z9:=WN.out;clear Ot rP;go_wp2_with (at_builtin;refine wpList_append_lies _ rfl _ _ 80 rfl w.heap.size 119 i0 (.agg cK) 8 72 Tryz.underlying80 hi0 hz0 hz1 hz2 rfl (by omega) _ q.len cs rfl hown ⟨W5.heap.size,0,none⟩ 1 1 (eQ (eP x) (.pointer pp) (.pointer pq) (.slice pu t.len cu) (.slice pu' e.len cu')) rfl rfl (Oo _ _ hszW _ _ _ _ _) (DF _ _ _ _ _ _ _ _ _) (by omega) (by unfold maxLen;omega) (by omega) (by simp;omega) (W5.heap.size+1) (by simp) ?_)
    intro g' cap' w9 hown3 hgrow hat hlt3;have Pv:=hid (SA.out.done HOW.out zW.out rfl hown3 hgrow (hat.imp id (fun h=>by rw [h];simp)));have BA:=hid (show Below w.heap.size w w9 from (SA.out.low.grown hgrow (by simp;omega) (fun k hk=>(HOW.out.lt k hk).1)));clear hown3 hgrow hat hlt3 hown;go_wp2_with fail
    go_roundg (l.length - (i' + 1))
    case measure=>have:=sP.out;have:=Pw.out;omega
    case rel=>exact ⟨q.snoc (eP x) t e,r',i' + 1,rfl,by have:=Oq.out;have:=Pw.out;omega,by go_num,hid (by rw [az.kR];exact HE.out),TV,Pv,BA⟩
theorem KW (l:List Mark) (hbd:∀ x ∈ l,x.bd):∀ (n k m:Nat) (b:az),l.length - k<n->qH l k b m->m<=10000000->∀ (v:Value) (w:World),wT w v l->Calls Tryz.prog 26 #[v,.int .i64 (k:Nat)] w (wX b m w):=by
 intro n;induction n with
 | zero=>intro k m b h;omega
 | succ n ih =>
  intro k m b hn hb hm v w hv;exact Ig l hbd k m b hb hm v w hv fun hk j c i hj hc hi W hW=>ih j i c (by omega) hc hi v W (hv.below hW)
end Go.Proofs.YtaanhmndeobgbaaGreatDoor.Prog
