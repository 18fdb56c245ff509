/- Part 21 of the proof: what is used of the texts StmO, StmP, StmK, StmT, StmU, StmDf, StmEf. -/
import Derived.Test.YtaanhmndeobgbaaGreatDoorGB0
import Derived.Test.YtaanhmndeobgbaaGreatDoorGB9
import Derived.Test.YtaanhmndeobgbaaGreatDoorGA9
import Derived.Test.YtaanhmndeobgbaaGreatDoorGB8
import Derived.Test.YtaanhmndeobgbaaGreatDoorGB7
set_option maxRecDepth 100000
set_option maxHeartbeats 4000000
namespace Go.Proofs.YtaanhmndeobgbaaGreatDoor.Prog
open Go.RowKit Mem Go.Proofs.YtaanhmndeobgbaaGreatDoor.Expr Go.Lib
def at_ (g:Nat):Value:=.pointer (some ⟨g,0,none⟩)
theorem Fw (m:Nat) (hm:m<256) (w:World):Calls Tryz.prog 147 #[.int .u8 (m:Nat)] w fun e w'=>Made (.returned (.string (str (aH m)))) w e w':=by
 by_cases h:7<=m
 ·have i1:(7:Int)<=(m:Int):=by omega
  have HT:=hid (pK h);clear h;go_enter Tryz.func147,Tryz.ntmps147;go_wp2_with fail
  go_ret;exact ⟨by rw [HT.out];rfl,(Below.refl _ _).alloc (Nat.le_refl _) _⟩
 ·obtain rfl | rfl | rfl | rfl | rfl | rfl | rfl:m=0 \/ m=1 \/ m=2 \/ m=3 \/ m=4 \/ m=5 \/ m=6:=by omega
  all_goals
   clear h hm;go_enter Tryz.func147,Tryz.ntmps147;go_wp2_with fail
   go_ret;exact ⟨rfl,(Below.refl _ _).alloc (Nat.le_refl _) _⟩
def here (w:World):Nat->Prop:=fun x=>x<w.heap.size
structure Mark where
 kind:Nat
 reg:Nat
 mode:Nat
 loc:Nat
 a:List It
 b:List It
def Mark.bd (x:Mark):Prop:=x.kind<256/\x.reg<256/\x.mode<256/\x.loc<256/\(∀ i ∈ x.a,i.bd)/\(∀ i ∈ x.b,i.bd)
open Classical in
/-- A row's expression; none, if it may not be. -/
noncomputable def iT (l:List It):Option Ex:=if h:∃ e:Ex,(∃ m,Sp l 0 e m)/\e.depth<=12 then some h.choose else none
theorem BH {l:List It} {e:Ex} {m:Nat} (hs:Sp l 0 e m) (hd:e.depth<=12):iT l=some e:=by
 have h:∃ e:Ex,(∃ m,Sp l 0 e m)/\e.depth<=12:=⟨e,⟨m,hs⟩,hd⟩
 unfold iT;rw [dif_pos h];obtain ⟨⟨m',h1⟩,_⟩:=h.choose_spec;rw [(h1.CG hs).1]
theorem BI {l:List It} (h:∀ e m,Sp l 0 e m->12<e.depth):iT l=none:=by
 unfold iT;rw [dif_neg];rintro ⟨e,⟨m,hs⟩,hd⟩;have:=h e m hs;omega
theorem Nq:iT []=none:=BI fun e m hs=>by have:=hs.le;simp at this;omega
noncomputable def eP (x:Mark):Mk:=⟨x.kind,x.reg,x.mode,x.loc,iT x.a,iT x.b⟩
inductive qH (l:List Mark):Nat->az->Nat->Prop
 | out {k:Nat}:l[k]? = none->qH l k .nil k
 | stop {k:Nat} {x:Mark}:l[k]? = some x->x.kind=0->qH l k .nil k
 | plain {k m:Nat} {x:Mark} {r:az}:l[k]? = some x->x.kind≠0->x.kind≠8->x.kind≠9->qH l (k+1) r m->qH l k (.cons (eP x) .nil .nil r) m
 | loop {k j m:Nat} {x:Mark} {t r:az}:l[k]? = some x->x.kind=9->qH l (k+1) t j->qH l (j+1) r m->qH l k (.cons (eP x) t .nil r) m
 | cond {k j i m:Nat} {x:Mark} {t e r:az}:l[k]? = some x->x.kind=8->qH l (k+1) t j->qH l (j+1) e i->qH l (i+1) r m->qH l k (.cons (eP x) t e r) m
theorem qH.le {l:List Mark} {k m:Nat} {b:az} (h:qH l k b m):k+b.size<=m/\b.size+k<=max k l.length/\m<=k+3 * b.size:=by
 have lt:∀ {k:Nat} {x:Mark},l[k]? = some x->k<l.length:=fun h=>(List.getElem?_eq_some_iff.1 h).1
 induction h with
 | out _=>simp [az.size];omega
 | stop _ _=>simp [az.size];omega
 | plain hx _ _ _ _ ih=>have:=lt hx;simp only [az.size];omega
 | loop hx _ _ _ ih1 ih2=>have:=lt hx;simp only [az.size];omega
 | cond hx _ _ _ _ ih1 ih2 ih3=>have:=lt hx;simp only [az.size];omega
theorem qH.inv {l:List Mark} {j m:Nat} {r:az} (h:qH l j r m):(l[j]? = none/\r = .nil/\m=j) \/ (∃ x,l[j]? = some x/\x.kind=0/\r = .nil/\m=j) \/
  (∃ x r',l[j]? = some x/\x.kind≠0/\x.kind≠8/\x.kind≠9/\qH l (j+1) r' m/\r = .cons (eP x) .nil .nil r') \/
  (∃ x t i r',l[j]? = some x/\x.kind=9/\qH l (j+1) t i/\qH l (i+1) r' m/\r = .cons (eP x) t .nil r') \/
  (∃ x t i e i' r',l[j]? = some x/\x.kind=8/\qH l (j+1) t i/\qH l (i+1) e i' /\ qH l (i' + 1) r' m/\r = .cons (eP x) t e r'):=by
 cases h with
 | out hx=>exact .inl ⟨hx,rfl,rfl⟩
 | stop hx h0=>exact .inr (.inl ⟨_,hx,h0,rfl,rfl⟩)
 | plain hx h0 h8 h9 hr=>exact .inr (.inr (.inl ⟨_,_,hx,h0,h8,h9,hr,rfl⟩))
 | loop hx h9 ht hr=>exact .inr (.inr (.inr (.inl ⟨_,_,_,_,hx,h9,ht,hr,rfl⟩)))
 | cond hx h8 ht he hr=>exact .inr (.inr (.inr (.inr ⟨_,_,_,_,_,_,hx,h8,ht,he,hr,rfl⟩)))
theorem qH.ex (l:List Mark):∀ (n k:Nat),l.length - k<n->∃ b m,qH l k b m:=by
 intro n;induction n with
 | zero=>intro k h;omega
 | succ n ih =>
  intro k hk;cases hx:l[k]? with
  | none=>exact ⟨_,_,.out hx⟩
  | some x =>
   have hlt:=(List.getElem?_eq_some_iff.1 hx).1;by_cases h0:x.kind=0
   ·exact ⟨_,_,.stop hx h0⟩
   ·obtain ⟨t,j,ht⟩:=ih (k+1) (by omega)
    have hj:=ht.le.1;by_cases h8:x.kind=8
    ·obtain ⟨e,i,he⟩:=ih (j+1) (by omega)
     have hi:=he.le.1;obtain ⟨r,m,hr⟩:=ih (i+1) (by omega);exact ⟨_,_,.cond hx h8 ht he hr⟩
    ·by_cases h9:x.kind=9
     ·obtain ⟨r,m,hr⟩:=ih (j+1) (by omega)
      exact ⟨_,_,.loop hx h9 ht hr⟩
     ·exact ⟨_,_,.plain hx h0 h8 h9 ht⟩
def zy (w:World) (g o:Nat) (x:Mark) (av bv:Value):Prop :=
 w.cell? ⟨g,o,none⟩=some (.int .u8 x.kind)/\w.cell? ⟨g,o+1,none⟩=some (.int .u8 x.reg)/\w.cell? ⟨g,o+2,none⟩=some (.int .u8 x.mode)/\w.cell? ⟨g,o+3,none⟩=some (.int .u8 x.loc) /\
  w.cell? ⟨g,o+4,none⟩=some av/\w.cell? ⟨g,o+5,none⟩=some bv/\Row w av x.a/\Row w bv x.b
def wT (w:World) (v:Value) (l:List Mark):Prop :=
 (l=[]/\∃ p cap,v = .slice p 0 cap) \/ ∃ g o cap,v = .slice (some ⟨g,o,none⟩) l.length cap/\l.length<=1000000/\∀ i x,l[i]? = some x->∃ av bv,zy w g (o+i * 6) x av bv
theorem zy.below {w w':World} {g o:Nat} {x:Mark} {av bv:Value} (h:zy w g o x av bv) (hb:Below w.heap.size w w'):zy w' g o x av bv:=by
 obtain ⟨h0,h1,h2,h3,h4,h5,h6,h7⟩:=h;have k:=cell_below (U:=gu) hb g trivial;exact ⟨k _ _ h0,k _ _ h1,k _ _ h2,k _ _ h3,k _ _ h4,k _ _ h5,h6.below hb,h7.below hb⟩
theorem wT.below {w w':World} {v:Value} {l:List Mark} (h:wT w v l) (hb:Below w.heap.size w w'):wT w' v l:=by
 rcases h with h | ⟨g,o,cap,hv,hl,h⟩
 ·exact .inl h
 ·exact .inr ⟨g,o,cap,hv,hl,fun i x hx=>by obtain ⟨av,bv,h⟩:=h i x hx;exact ⟨av,bv,h.below hb⟩⟩
theorem wT.len {w:World} {v:Value} {l:List Mark} (h:wT w v l):∃ p cap,v = .slice p l.length cap/\l.length<=1000000:=by
 rcases h with ⟨rfl,p,cap,hv⟩ | ⟨g,o,cap,hv,hl,_⟩
 ·exact ⟨p,cap,hv,by simp⟩
 ·exact ⟨_,cap,hv,hl⟩
theorem wT.at {w:World} {v:Value} {l:List Mark} (h:wT w v l) {i:Nat} {x:Mark} (hx:l[i]? = some x):∃ g o cap av bv,v = .slice (some ⟨g,o,none⟩) l.length cap/\i<l.length/\zy w g (o+i * 6) x av bv:=by
 have hi:=(List.getElem?_eq_some_iff.1 hx).1;rcases h with ⟨rfl,_⟩ | ⟨g,o,cap,hv,hl,h⟩
 ·simp at hi
 ·obtain ⟨av,bv,h⟩:=h i x hx
  exact ⟨g,o,cap,av,bv,hv,hi,h⟩
def bY (e0:Option Ex) (w:World) (e:Ending) (w':World):Prop:=∃ p,e = .returned (.pointer p)/\Tree w' (kr e0) (.pointer p)/\Below w.heap.size w w'
theorem mO (l:List It) (v:Value) (w:World) (hv:Row w v l):Calls Tryz.prog 25 #[v] w (bY (iT l) w):=by
 have hG:=Mx l v w hv;rcases Kb l with ⟨z,hz,hbad⟩ | ⟨e,m,hs,hd,hz⟩
 ·rw [hz] at hG
  have HG:=hid hG;have HN:=hid (BI hbad);obtain ⟨p,cap,rfl,_⟩:=hv.len;clear hv hG hz hbad;go_enter Tryz.func25,Tryz.ntmps25;go_wp2_with fail
  refine HG.out.mono ?_;rintro e w1 ⟨rfl,hb⟩;have HB:=hid hb;clear hb;go_wp2_with fail
  go_ret;exact ⟨none,rfl,by rw [HN.out];rfl,HB.out⟩
 ·rw [hz] at hG
  have HG:=hid hG;have HN:=hid (BH hs hd);have HO:=hid (fun W (h:Below w.heap.size w W)=>Qa hs hd v W (hv.below h));obtain ⟨p,cap,rfl,_⟩:=hv.len;clear hv hG hz hs hd;go_enter Tryz.func25,Tryz.ntmps25;go_wp2_with fail
  refine HG.out.mono ?_;rintro e' w1 ⟨rfl,hb⟩;have HB:=hid hb;clear hb;go_wp2_with fail
  refine (HO.out _ HB.out).mono ?_;rintro e' w2 ⟨q,rfl,ht,hb⟩;have HB2:=hid (HB.out.trans (hb.mono HB.out.size));have HT:=hid ht;clear hb ht;go_wp2_with fail
  go_ret;exact ⟨q,rfl,by rw [HN.out];exact HT.out,HB2.out⟩
structure Rt where
 init:List (Nat × Nat)
 threads:List (List Mark)
 all:Bool
 ask:List It
def tN (w:World) (v:Value) (ls:List (List Mark)):Prop:=∃ vs:List Value,gQ gu w v ls.length vs/\vs.length=ls.length/\∀ (i:Nat) (l:List Mark) (u:Value),ls[i]? = some l->vs[i]? = some u->wT w u l
structure QF (w:World) (t:Rt) (vi vt va:Value):Prop where
 init:qy w vi t.init
 threads:tN w vt t.threads
 ask:Row w va t.ask
section
variable {w w' : World} {v : Value} {ls : List (List Mark)}
theorem tN.below (h:tN w v ls) (hb:Below w.heap.size w w'):tN w' v ls:=by
 obtain ⟨vs,h1,h2,h3⟩:=h;exact ⟨vs,h1.below hb,h2,fun i l u hl hu=>(h3 i l u hl hu).below hb⟩
theorem tN.len (h:tN w v ls):∃ p cap,v = .slice p ls.length cap/\ls.length<=1000000:=by
 obtain ⟨vs,h1,_⟩:=h;exact h1.len
theorem tN.at (h:tN w v ls) {i:Nat} {l:List Mark} (hl:ls[i]? = some l):∃ g o cap u,v = .slice (some ⟨g,o,none⟩) ls.length cap/\i<ls.length/\w.cell? ⟨g,o+i,none⟩=some u/\wT w u l:=by
 obtain ⟨vs,h1,h2,h3⟩:=h;have hi:=(List.getElem?_eq_some_iff.1 hl).1;have hv:vs[i]? = some vs[i]:=List.getElem?_eq_getElem (by omega);rcases h1 with ⟨h0,_⟩ | ⟨g,o,cap,e,_,_,hc⟩
 ·omega
 ·exact ⟨g,o,cap,_,e,hi,hc i _ hv,h3 i l _ hl hv⟩
theorem QF.below {t:Rt} {vi vt va:Value} (h:QF w t vi vt va) (hb:Below w.heap.size w w'):QF w' t vi vt va:=⟨h.init.below hb,h.threads.below hb,h.ask.below hb⟩
end
def yw (vi vt:Value) (all:Bool) (va:Value):Array Value:=#[vi,vt,.bool all,va]
noncomputable def mP (l:List Mark):az:=(qH.ex l (l.length+1) 0 (by omega)).choose
noncomputable def qU (l:List Mark):Nat:=(qH.ex l (l.length+1) 0 (by omega)).choose_spec.choose
theorem zA (l:List Mark):qH l 0 (mP l) (qU l):=(qH.ex l (l.length+1) 0 (by omega)).choose_spec.choose_spec
theorem Nr {l:List Mark} (h:l.length<=1000000):qU l<=10000000/\(mP l).size<=l.length:=by
 have:=(zA l).le;omega
noncomputable def T9 (t:Rt):Ts:=⟨t.init,t.threads.map mP,t.all,iT t.ask⟩
end Go.Proofs.YtaanhmndeobgbaaGreatDoor.Prog
namespace Go.Proofs.YtaanhmndeobgbaaGreatDoor.Prog
open Go.RowKit Mem Go.Proofs.YtaanhmndeobgbaaGreatDoor.Expr ae Go.Lib
def az.few:az->Prop
 | .nil=>True
 | .cons m t e r=>(m.kind=2 \/ m.kind=3 \/ m.kind=8)/\t.few/\e.few/\r.few
theorem az.QG {q t e r:az} {m:Mk} (h:(q.app (.cons m t e r)).few):(m.kind=2 \/ m.kind=3 \/ m.kind=8)/\t.few/\e.few:=by
 induction q with
 | nil=>exact ⟨h.1,h.2.1,h.2.2.1⟩
 | cons _ _ _ r' _ _ ih=>exact ih h.2.2.2
theorem KG (w0:World) (hX:All w0) (bB:Nat) (b:az) (hf:b.fine) (hn:b.few) (d:Nat) (hd:d<=8) (l:List UInt8) (v:Value) (w:World) (hS:aR gu w0 b v) (hB:ug w0 bB l w) (hlen:l.length+240000 * b.size<=100000000000000)
  (IH:∀ (c:az),c.size<b.size->c.fine->c.few->∀ (l:List UInt8) (v:Value) (w:World),aR gu w0 c v->ug w0 bB l w->l.length+240000 * c.size<=100000000000000 ->
   Calls Tryz.prog 30 #[.pointer (some ⟨bB,0,none⟩),v,.int .i64 ((d:Int)+1)] w (su w0 bB (l ++ c.text (d+1)) w)) :
  Calls Tryz.prog 30 #[.pointer (some ⟨bB,0,none⟩),v,.int .i64 (d:Nat)] w (su w0 bB (l ++ b.text d) w):=by
 have HLn:=hid (xK bB d (by omega));have HB:=hid hB;have i1:(d:Int)<=8:=by omega
 obtain ⟨p,cap,rfl,hl,hr⟩:=hS.rests;have HR:=hid hr;have Ef:=hid IH;have HX:=hid hX;have HLEN:=hid hlen;have HF:=hid hf;have HN:=hid hn;have HD:=hid hd;have i2:(b.len:Int)<=1000000:=by omega
 clear hS hB IH hlen hr hX hf hn hd hl;go_enter Tryz.func30,Tryz.ntmps30;go_wp2_with fail
 refine (HLn.out _).mono ?_;rintro e w1 ⟨vp,rfl,hp,hb⟩;have HB1:=hid (HB.out.grown hb);have Y0:=hid (gP.below hb (b:=bB));obtain ⟨gb,gm,rfl,hp1,hp2⟩:=hp.fn;have F8:=hid hp1;have ML:=hid hp2;clear hp hb hp1 hp2 HB HLn;go_wp2_with fail
 go_loopg [16] b.len (fun gg v16 wx=>Ni w0 w p b bB d gb gm l gg v16 wx)
 case atStart=>exact ⟨az.nil,b,rfl,by simp [az.len],rfl,hid rfl,HR,hid (by simpa [az.text] using HB1.out),Y0,F8,ML⟩
 case round =>
  obtain ⟨q,r,rfl,hlen,rfl,HE,Sg,R4,Qc,ZE,Vj⟩:=hrel;cases r with
  | nil =>
   have e:b.len=q.len:=by simpa [az.len] using hlen
   have HEq:=hid (show b=q by rw [HE.out,az.uT]);have i3:¬ ((q.len:Int)<(b.len:Int)):=by omega
   clear e hlen;go_wp2_with fail
   go_end0
   exact ⟨rfl,by rw [HEq.out];exact R4.out,Qc.out⟩
  | cons m t e r =>
   obtain ⟨g,o,rfl,hk,hr',av,bv,tv,ev,hst,Gd,htb,zq,zt⟩:=Sg.out.next;obtain ⟨oa,ob,Np,hmo,hlo,hki,ft,fe,fr⟩:=az.E5 (HE.out ▸ HF.out);obtain ⟨hn3,nt,ne⟩:=az.QG (HE.out ▸ HN.out);have hsz:b.size=q.size+(t.size+e.size+r.size+1):=by rw [HE.out,az.yV];rfl
   have pX:=hid hsz;have Pt:=R4.out.low;have Sm:(q.text d).length<=240000 * q.size:=az.mr (az.Kk (HE.out ▸ HF.out)) d;have AU:=hid Sm;have og:=hid hr';have HA:=hid (fun W (h:Below w0.heap.size w0 W)=>wS m.a oa av W (HX.out.1.below h) (Gd.below h));have Gf:=hid (fun W (h:Below w0.heap.size w0 W)=>wS m.b ob bv W (HX.out.1.below h) (htb.below h));have Sj:=hid zq;have Vh:=hid zt;have HFT:=hid ft;have ZF:=hid nt;have fH:=hid ne;have Sn:=hid fe;obtain ⟨pa,rfl,_⟩:=Gd.ptr;obtain ⟨pb,rfl,_⟩:=htb.ptr;obtain ⟨c0,c1,c2,c3,c4,c5,c6,c7⟩:=hst.below Pt;have lg:=World.block_lt_of_cell? _ _ c0;obtain ⟨pt,ct,rfl,_⟩:=zq.len;obtain ⟨pe,ce,rfl,_⟩:=zt.len;have lq:(q.len:Int)<(b.len:Int):=by omega
   have lq0:(0:Int)<=(q.len:Int):=by omega
   have yu:=hid hlen;have QA:=hid oa;have jY:=hid ob;have HR2:=hid Np;clear hst Gd htb zq zt ft fe fr nt ne hsz Pt Sm hr' oa ob hlen;obtain ⟨k,rg,mo,lo,a,bb⟩:=m;simp only at c0 c1 c2 c3 hmo hlo hki Np
   by_cases k8:k=8
   ·subst k8
    have zB:=hid (On.made (w:=w) ⟨8,rg,mo,lo,a,bb⟩ pa pb (.slice pt t.len ct) (.slice pe e.len ce) R4.out Qc.out ZE.out Vj.out);have HH:Hid ((gI ⟨8,rg,mo,lo,a,bb⟩).length<=230000):=hid (uV QA.out jY.out HR2.out);have HOWN:=hid (VK (m:=⟨8,rg,mo,lo,a,bb⟩) t e HD.out rfl);go_wp2_with fail
    change Calls _ _ _ (xP wr ⟨8,rg,mo,lo,a,bb⟩ pa pb (.slice pt t.len ct) (.slice pe e.len ce)) _;generalize xP wr ⟨8,rg,mo,lo,a,bb⟩ pa pb (.slice pt t.len ct) (.slice pe e.len ce)=wa at zB ⊢;refine (HA.out _ zB.out.uI.low).mono ?_;rintro e' w2 ⟨rfl,hb⟩;have Zn:=hid (zB.out.grown hb);clear hb;go_wp2_with fail
    have iB:=Zn.out.line [[105,102,32,40],qC a,[41,32,123]] HD.out (by simp) (by rw [Sd rg mo lo a bb,List.length_append];have:=AU.out;have:=HLEN.out;have:=pX.out;have:=HH.out;omega);rw [Sd rg mo lo a bb] at iB;refine iB.mono ?_;rintro e' w3 ⟨rfl,hO⟩;have Pv:=hid hO;have c6:=hO.box.cell 6;have lb:=hO.box.lt;clear hO iB;go_wp2_with fail
    refine (Pv.out.more t _ Sj.out (by rw [List.length_append,rD,List.length_append];have:=AU.out;have:=HLEN.out;have:=pX.out;have:=HH.out;have:=HD.out;omega) (Ef.out t (by have:=pX.out;omega) HFT.out ZF.out)).mono ?_;rintro e' w4 ⟨rfl,hO⟩;have Yk:=hid hO;have c7:=hO.box.cell 7;have lb:=hO.box.lt;clear hO c6;have Pw:=hid (az.mr HFT.out (d+1));have HEL:=hid (az.mr Sn.out (d+1));by_cases he:e.len=0
    ·have i5:¬ (0:Int)<(e.len:Int):=by omega
     have Wl:=hid he;clear he;go_wp2_with fail
     have iB:=Yk.out.line [[125]] HD.out (by simp) (by simp only [List.length_append,rD,List.flatten_cons,List.flatten_nil,List.length_cons,List.length_nil];have:=AU.out;have:=HLEN.out;have:=pX.out;have:=HH.out;have:=HD.out;have:=Pw.out;omega);refine iB.mono ?_;rintro e' w5 ⟨rfl,hO⟩;have Hd:=hid hO;clear hO iB;go_wp2_with fail
     go_roundg r.len
     case measure=>simp [az.len]
     case rel=>exact Hd.out.close HD.out HE.out og.out (by rw [HOWN.out,if_pos Wl.out];simp [List.append_assoc])
    ·have i5:(0:Int)<(e.len:Int):=by omega
     have Wl:=hid he;clear he;go_wp2_with fail
     have iB:=Yk.out.line [lN] HD.out (by simp) (by simp only [List.length_append,rD,List.flatten_cons,List.flatten_nil,List.length_cons,List.length_nil,lN];have:=AU.out;have:=HLEN.out;have:=pX.out;have:=HH.out;have:=HD.out;have:=Pw.out;omega);refine iB.mono ?_;rintro e' w5 ⟨rfl,hO⟩;have Hd:=hid hO;have c7:=hO.box.cell 7;have lb:=hO.box.lt;clear hO iB;go_wp2_with fail
     refine (Hd.out.more e _ Vh.out (by simp only [List.length_append,rD,List.flatten_cons,List.flatten_nil,List.length_cons,List.length_nil,lN];have:=AU.out;have:=HLEN.out;have:=pX.out;have:=HH.out;have:=HD.out;have:=Pw.out;omega) (Ef.out e (by have:=pX.out;omega) Sn.out fH.out)).mono ?_;rintro e' w6 ⟨rfl,hO⟩;have HO6:=hid hO;clear hO c7;go_wp2_with fail
     have iB:=HO6.out.line [[125]] HD.out (by simp) (by simp only [List.length_append,rD,List.flatten_cons,List.flatten_nil,List.length_cons,List.length_nil,lN];have:=AU.out;have:=HLEN.out;have:=pX.out;have:=HH.out;have:=HD.out;have:=Pw.out;have:=HEL.out;omega);refine iB.mono ?_;rintro e' w7 ⟨rfl,hO⟩;have ZG:=hid hO;clear hO iB;go_wp2_with fail
     go_roundg r.len
     case measure=>simp [az.len]
     case rel=>exact ZG.out.close HD.out HE.out og.out (by rw [HOWN.out,if_neg Wl.out];simp [List.append_assoc])
   by_cases k2:k=2
   ·subst k2
    have zB:=hid (On.made (w:=w) ⟨2,rg,mo,lo,a,bb⟩ pa pb (.slice pt t.len ct) (.slice pe e.len ce) R4.out Qc.out ZE.out Vj.out);have HH:Hid ((gI ⟨2,rg,mo,lo,a,bb⟩).length<=230000):=hid (uV QA.out jY.out HR2.out);have HOWN:=hid (EZ (m:=⟨2,rg,mo,lo,a,bb⟩) t e HD.out (by simp));have ZH:Hid ((joined [[lo.toUInt8],aH mo]).length<=1000000):=hid (by rw [Jl];have:=qX mo;have:(qC a).length<=114660:=pM QA.out;have:(qC bb).length<=114660:=pM jY.out;simp only [List.length_append,List.length_cons,List.length_nil];omega);go_wp2_with fail
    change Code.wp _ _ _ _ (xP wr ⟨2,rg,mo,lo,a,bb⟩ pa pb (.slice pt t.len ct) (.slice pe e.len ce));generalize xP wr ⟨2,rg,mo,lo,a,bb⟩ pa pb (.slice pt t.len ct) (.slice pe e.len ce)=wa at zB ⊢;have Jh:=hid (fun W (h:Below w0.heap.size w0 W)=>xJ ⟨2,rg,mo,lo,a,bb⟩ HR2.out (.pointer pa) (.pointer pb) (.slice pt t.len ct) (.slice pe e.len ce) W ((HX.out.1.below h).2));have sP:=hid (fun W (_:Below w0.heap.size w0 W)=>gG lo hlo W);have LZ:=hid (fun W (h:Below w0.heap.size w0 W)=>yU mo hmo W (HX.out.2.below h));generalize wr.heap.size=bx at zB ⊢;refine nJ [81,82,83,84,85,86,87,88,89,90,91,92] [aV (oP gb gm),aV (kZ ⟨2,rg,mo,lo,a,bb⟩ (.pointer pa) (.pointer pb) (.slice pt t.len ct) (.slice pe e.len ce)),aV (.string (str (114 :: dec rg))),aV (.pointer (some ⟨bx,3,none⟩)),aV (.int .u8 (lo:Nat)),aV (.string (str [lo.toUInt8])),aV (.pointer (some ⟨bx,2,none⟩)),aV (.int .u8 (mo:Nat)),aV (.string (str (aH mo))),uh 9 2 (words [[lo.toUInt8],aH mo]),aV (.string (str (fB [108,111,97,100] [[lo.toUInt8],aH mo]))),uh 9 3 (words [114 :: dec rg,[32,61,32],fB [108,111,97,100] [[lo.toUInt8],aH mo]])] (by kernel_rfl) (by kernel_rfl) (by kernel_rfl) (by rfl) (by simp only [List.mem_cons,List.not_mem_nil,or_false,forall_eq_or_imp,forall_eq];refine ⟨?_,?_,?_,?_,?_,?_,?_,?_,?_,?_,?_,?_⟩ <;> first | exact eH _ | exact rY _ _ _) ?_ ?_
    ·intro i o hi ho A W hW hk he
     simp only [List.length_cons,List.length_nil,Nat.zero_add,Nat.reduceAdd] at hi
     obtain rfl | rfl | rfl | rfl | rfl | rfl | rfl | rfl | rfl | rfl | rfl | rfl:i=0 \/ i=1 \/ i=2 \/ i=3 \/ i=4 \/ i=5 \/ i=6 \/ i=7 \/ i=8 \/ i=9 \/ i=10 \/ i=11:=by omega
     all_goals (injection ho with ho;subst ho)
     ·have h6:A.tmps[6]?.getD undef=oP gb gm:=hk 6 (by rfl)
      unfold oP at h6;go_simp
      exact ⟨rfl,Below.refl _ _⟩
     ·have hO:=zB.out.grown hW
      have h8:A.tmps[8]?.getD undef = .pointer (some ⟨bx,0,none⟩):=hk 8 (by rfl);have c0:=hO.box.cell 0;have c1:=hO.box.cell 1;have c2:=hO.box.cell 2;have c3:=hO.box.cell 3;have c4:=hO.box.cell 4;have c5:=hO.box.cell 5;have c6:=hO.box.cell 6;have c7:=hO.box.cell 7;go_simp
      exact ⟨rfl,Below.refl _ _⟩
     ·have hO:=zB.out.grown hW
      have hs:A.tmps[82]?.getD undef=kZ ⟨2,rg,mo,lo,a,bb⟩ (.pointer pa) (.pointer pb) (.slice pt t.len ct) (.slice pe e.len ce):=he 1 (by kernel_rfl);unfold kZ at hs;go_simp
      refine Calls.mono (Jh.out W hO.uI.low) ?_;rintro e' w' ⟨rfl,hb⟩;exact ⟨_,rfl,rfl,hb⟩
     ·have h8:A.tmps[8]?.getD undef = .pointer (some ⟨bx,0,none⟩):=hk 8 (by rfl)
      go_simp
      exact ⟨rfl,Below.refl _ _⟩
     ·have hO:=zB.out.grown hW
      have hs:A.tmps[84]?.getD undef = .pointer (some ⟨bx,3,none⟩):=he 3 (by kernel_rfl);have cc:=hO.box.cell 3;go_simp
      exact ⟨rfl,Below.refl _ _⟩
     ·have hO:=zB.out.grown hW
      have hs:A.tmps[85]?.getD undef = .int .u8 (lo:Nat):=he 4 (by kernel_rfl);go_simp
      refine Calls.mono (sP.out W hO.uI.low) ?_;rintro e' w' ⟨rfl,hb⟩;exact ⟨_,rfl,rfl,hb⟩
     ·have h8:A.tmps[8]?.getD undef = .pointer (some ⟨bx,0,none⟩):=hk 8 (by rfl)
      go_simp
      exact ⟨rfl,Below.refl _ _⟩
     ·have hO:=zB.out.grown hW
      have hs:A.tmps[87]?.getD undef = .pointer (some ⟨bx,2,none⟩):=he 6 (by kernel_rfl);have cc:=hO.box.cell 2;go_simp
      exact ⟨rfl,Below.refl _ _⟩
     ·have hO:=zB.out.grown hW
      have hs:A.tmps[88]?.getD undef = .int .u8 (mo:Nat):=he 7 (by kernel_rfl);go_simp
      refine Calls.mono (LZ.out W hO.uI.low) ?_;rintro e' w' ⟨rfl,hb⟩;exact ⟨_,rfl,rfl,hb⟩
     ·have hs5:A.tmps[86]?.getD undef = .string (str ([lo.toUInt8])):=he 5 (by kernel_rfl)
      have Ve:A.tmps[89]?.getD undef = .string (str (aH mo)):=he 8 (by kernel_rfl);go_simp
      exact ⟨⟨_,rfl,Sits.new _ _ _⟩,(Below.refl _ _).alloc (Nat.le_refl _) _⟩
     ·obtain ⟨gw,hs,mQ⟩:uh 9 2 (words [[lo.toUInt8],aH mo]) (A.tmps[90]?.getD undef) W:=he 9 (by kernel_rfl)
      go_simp
      refine Calls.mono (EW [108,111,97,100] (by simp) [[lo.toUInt8],aH mo] _ W ⟨gw,rfl,mQ⟩ (by simp) ZH.out) ?_;rintro e' w' ⟨rfl,hb⟩;exact ⟨_,rfl,rfl,hb⟩
     ·have hs2:A.tmps[83]?.getD undef = .string (str (114 :: dec rg)):=he 2 (by kernel_rfl)
      have a0B:A.tmps[91]?.getD undef = .string (str (fB [108,111,97,100] [[lo.toUInt8],aH mo])):=he 10 (by kernel_rfl);go_simp
      exact ⟨⟨_,rfl,Sits.new _ _ _⟩,(Below.refl _ _).alloc (Nat.le_refl _) _⟩
    ·intro xs W hW hV
     have e0:xs 0=oP gb gm:=hV 0 (by simp);obtain ⟨gw,ew,mQ⟩:uh 9 3 (words [114 :: dec rg,[32,61,32],fB [108,111,97,100] [[lo.toUInt8],aH mo]]) (xs 11) W:=hV 11 (by simp);have HOW:=hid (zB.out.grown hW);have Ua:=hid mQ;unfold oP at e0;simp only [List.length_cons,List.length_nil,Nat.zero_add,Nat.reduceAdd,List.drop_succ_cons,List.drop_zero,gZ,Act.put,List.setIfInBounds_toArray,List.set_cons_zero,List.set_cons_succ,e0,ew]
     clear hV mQ hW e0 ew;go_wp2_with fail
     have iB:=HOW.out.BC [114 :: dec rg,[32,61,32],fB [108,111,97,100] [[lo.toUInt8],aH mo]] _ ⟨gw,rfl,Ua.out⟩ HD.out (by simp) (by rw [Jn rg mo lo a bb,List.length_append];have:=AU.out;have:=HLEN.out;have:=pX.out;have:=HH.out;omega);rw [Jn rg mo lo a bb] at iB;refine iB.mono ?_;rintro e' w5 ⟨rfl,hO⟩;have Hd:=hid hO;clear hO iB;go_wp2_with fail
     go_roundg r.len
     case measure=>simp [az.len]
     case rel=>exact Hd.out.close HD.out HE.out og.out (by rw [HOWN.out])
   by_cases k3:k=3
   ·subst k3
    have zB:=hid (On.made (w:=w) ⟨3,rg,mo,lo,a,bb⟩ pa pb (.slice pt t.len ct) (.slice pe e.len ce) R4.out Qc.out ZE.out Vj.out);have HH:Hid ((gI ⟨3,rg,mo,lo,a,bb⟩).length<=230000):=hid (uV QA.out jY.out HR2.out);have HOWN:=hid (EZ (m:=⟨3,rg,mo,lo,a,bb⟩) t e HD.out (by simp));have ZH:Hid ((joined [[lo.toUInt8],qC a,aH mo]).length<=1000000):=hid (by rw [Jm];have:=qX mo;have:(qC a).length<=114660:=pM QA.out;have:(qC bb).length<=114660:=pM jY.out;simp only [List.length_append,List.length_cons,List.length_nil];omega);go_wp2_with fail
    change Code.wp _ _ _ _ (xP wr ⟨3,rg,mo,lo,a,bb⟩ pa pb (.slice pt t.len ct) (.slice pe e.len ce));generalize xP wr ⟨3,rg,mo,lo,a,bb⟩ pa pb (.slice pt t.len ct) (.slice pe e.len ce)=wa at zB ⊢;have Jh:=hid (fun W (h:Below w0.heap.size w0 W)=>xJ ⟨3,rg,mo,lo,a,bb⟩ HR2.out (.pointer pa) (.pointer pb) (.slice pt t.len ct) (.slice pe e.len ce) W ((HX.out.1.below h).2));have sP:=hid (fun W (_:Below w0.heap.size w0 W)=>gG lo hlo W);have LZ:=hid (fun W (h:Below w0.heap.size w0 W)=>yU mo hmo W (HX.out.2.below h));generalize wr.heap.size=bx at zB ⊢;refine nJ [96,97,98,99,100,101,102,103,104,105,106,107,108] [aV (oP gb gm),aV (.pointer (some ⟨bx,3,none⟩)),aV (.int .u8 (lo:Nat)),aV (.string (str [lo.toUInt8])),aV (.pointer (some ⟨bx,4,none⟩)),aV (.pointer pa),aV (.string (str (qC a))),aV (.pointer (some ⟨bx,2,none⟩)),aV (.int .u8 (mo:Nat)),aV (.string (str (aH mo))),uh 9 3 (words [[lo.toUInt8],qC a,aH mo]),aV (.string (str (fB [115,116,111,114,101] [[lo.toUInt8],qC a,aH mo]))),uh 9 1 (words [fB [115,116,111,114,101] [[lo.toUInt8],qC a,aH mo]])] (by kernel_rfl) (by kernel_rfl) (by kernel_rfl) (by rfl) (by simp only [List.mem_cons,List.not_mem_nil,or_false,forall_eq_or_imp,forall_eq];refine ⟨?_,?_,?_,?_,?_,?_,?_,?_,?_,?_,?_,?_,?_⟩ <;> first | exact eH _ | exact rY _ _ _) ?_ ?_
    ·intro i o hi ho A W hW hk he
     simp only [List.length_cons,List.length_nil,Nat.zero_add,Nat.reduceAdd] at hi
     obtain rfl | rfl | rfl | rfl | rfl | rfl | rfl | rfl | rfl | rfl | rfl | rfl | rfl:i=0 \/ i=1 \/ i=2 \/ i=3 \/ i=4 \/ i=5 \/ i=6 \/ i=7 \/ i=8 \/ i=9 \/ i=10 \/ i=11 \/ i=12:=by omega
     all_goals (injection ho with ho;subst ho)
     ·have h6:A.tmps[6]?.getD undef=oP gb gm:=hk 6 (by rfl)
      unfold oP at h6;go_simp
      exact ⟨rfl,Below.refl _ _⟩
     ·have h8:A.tmps[8]?.getD undef = .pointer (some ⟨bx,0,none⟩):=hk 8 (by rfl)
      go_simp
      exact ⟨rfl,Below.refl _ _⟩
     ·have hO:=zB.out.grown hW
      have hs:A.tmps[97]?.getD undef = .pointer (some ⟨bx,3,none⟩):=he 1 (by kernel_rfl);have cc:=hO.box.cell 3;go_simp
      exact ⟨rfl,Below.refl _ _⟩
     ·have hO:=zB.out.grown hW
      have hs:A.tmps[98]?.getD undef = .int .u8 (lo:Nat):=he 2 (by kernel_rfl);go_simp
      refine Calls.mono (sP.out W hO.uI.low) ?_;rintro e' w' ⟨rfl,hb⟩;exact ⟨_,rfl,rfl,hb⟩
     ·have h8:A.tmps[8]?.getD undef = .pointer (some ⟨bx,0,none⟩):=hk 8 (by rfl)
      go_simp
      exact ⟨rfl,Below.refl _ _⟩
     ·have hO:=zB.out.grown hW
      have hs:A.tmps[100]?.getD undef = .pointer (some ⟨bx,4,none⟩):=he 4 (by kernel_rfl);have cc:=hO.box.cell 4;go_simp
      exact ⟨rfl,Below.refl _ _⟩
     ·have hO:=zB.out.grown hW
      have hs:A.tmps[101]?.getD undef = .pointer pa:=he 5 (by kernel_rfl);go_simp
      refine Calls.mono (HA.out W hO.uI.low) ?_;rintro e' w' ⟨rfl,hb⟩;exact ⟨_,rfl,rfl,hb⟩
     ·have h8:A.tmps[8]?.getD undef = .pointer (some ⟨bx,0,none⟩):=hk 8 (by rfl)
      go_simp
      exact ⟨rfl,Below.refl _ _⟩
     ·have hO:=zB.out.grown hW
      have hs:A.tmps[103]?.getD undef = .pointer (some ⟨bx,2,none⟩):=he 7 (by kernel_rfl);have cc:=hO.box.cell 2;go_simp
      exact ⟨rfl,Below.refl _ _⟩
     ·have hO:=zB.out.grown hW
      have hs:A.tmps[104]?.getD undef = .int .u8 (mo:Nat):=he 8 (by kernel_rfl);go_simp
      refine Calls.mono (LZ.out W hO.uI.low) ?_;rintro e' w' ⟨rfl,hb⟩;exact ⟨_,rfl,rfl,hb⟩
     ·have hs3:A.tmps[99]?.getD undef = .string (str ([lo.toUInt8])):=he 3 (by kernel_rfl)
      have hs6:A.tmps[102]?.getD undef = .string (str (qC a)):=he 6 (by kernel_rfl);have hs9:A.tmps[105]?.getD undef = .string (str (aH mo)):=he 9 (by kernel_rfl);go_simp
      exact ⟨⟨_,rfl,Sits.new _ _ _⟩,(Below.refl _ _).alloc (Nat.le_refl _) _⟩
     ·obtain ⟨gw,hs,mQ⟩:uh 9 3 (words [[lo.toUInt8],qC a,aH mo]) (A.tmps[106]?.getD undef) W:=he 10 (by kernel_rfl)
      go_simp
      refine Calls.mono (EW [115,116,111,114,101] (by simp) [[lo.toUInt8],qC a,aH mo] _ W ⟨gw,rfl,mQ⟩ (by simp) ZH.out) ?_;rintro e' w' ⟨rfl,hb⟩;exact ⟨_,rfl,rfl,hb⟩
     ·have a0C:A.tmps[107]?.getD undef = .string (str (fB [115,116,111,114,101] [[lo.toUInt8],qC a,aH mo])):=he 11 (by kernel_rfl)
      go_simp
      exact ⟨⟨_,rfl,Sits.new _ _ _⟩,(Below.refl _ _).alloc (Nat.le_refl _) _⟩
    ·intro xs W hW hV
     have e0:xs 0=oP gb gm:=hV 0 (by simp);obtain ⟨gw,ew,mQ⟩:uh 9 1 (words [fB [115,116,111,114,101] [[lo.toUInt8],qC a,aH mo]]) (xs 12) W:=hV 12 (by simp);have HOW:=hid (zB.out.grown hW);have Ua:=hid mQ;unfold oP at e0;simp only [List.length_cons,List.length_nil,Nat.zero_add,Nat.reduceAdd,List.drop_succ_cons,List.drop_zero,gZ,Act.put,List.setIfInBounds_toArray,List.set_cons_zero,List.set_cons_succ,e0,ew]
     clear hV mQ hW e0 ew;go_wp2_with fail
     have iB:=HOW.out.BC [fB [115,116,111,114,101] [[lo.toUInt8],qC a,aH mo]] _ ⟨gw,rfl,Ua.out⟩ HD.out (by simp) (by rw [flat3 rg mo lo a bb,List.length_append];have:=AU.out;have:=HLEN.out;have:=pX.out;have:=HH.out;omega);rw [flat3 rg mo lo a bb] at iB;refine iB.mono ?_;rintro e' w5 ⟨rfl,hO⟩;have Hd:=hid hO;clear hO iB;go_wp2_with fail
     go_roundg r.len
     case measure=>simp [az.len]
     case rel=>exact Hd.out.close HD.out HE.out og.out (by rw [HOWN.out])
   exact absurd hn3 (by simp only;omega)
theorem Ns (w0:World) (hX:All w0) (bB:Nat):∀ (n:Nat) (b:az),b.size<n->b.fine->b.few->∀ (d:Nat),d<=9->∀ (l:List UInt8) (v:Value) (w:World),aR gu w0 b v->ug w0 bB l w->l.length+240000 * b.size<=100000000000000 ->
  Calls Tryz.prog 30 #[.pointer (some ⟨bB,0,none⟩),v,.int .i64 (d:Nat)] w (su w0 bB (l ++ b.text d) w):=by
 intro n;induction n with
 | zero=>intro b h;omega
 | succ n ih =>
  intro b hb hf hn d hd l v w hS hB hlen;by_cases h9:8<d
  ·obtain ⟨p,cap,rfl,_⟩:=hS.len
   rw [az.Ki b h9,List.append_nil];exact Nj w0 bB d h9 (by omega) l p b.len cap w hB
  ·exact KG w0 hX bB b hf hn d (by omega) l v w hS hB hlen fun c hc hcf hcn l v w hS hB hlen=>ih c (by omega) hcf hcn (d+1) (by omega) l v w hS hB hlen
theorem He (t:Ts) (ht:t.small) (hn:∀ b ∈ t.threads,b.few) (vi vt va:Value) (w:World) (hX:All w) (hT:nO w t vi vt va):Calls Tryz.prog 9 #[eU vi vt t.all va] w fun e w'=>Made (.returned (.string (str t.text))) w e w':=by
 obtain ⟨pi,ci,rfl⟩:=hT.init.len;obtain ⟨pt,ct,rfl⟩:=hT.threads.len;obtain ⟨pa,rfl,_⟩:=hT.ask.ptr;have hb0:Below w.heap.size w (KE w (.slice pi t.init.length ci) (.slice pt t.threads.length ct) t.all (.pointer pa)):=(Below.refl _ _).alloc (Nat.le_refl _) _;have hz:w.heap.size+1=(KE w (.slice pi t.init.length ci) (.slice pt t.threads.length ct) t.all (.pointer pa)).heap.size:=by simp [KE]
 have hbx:Sits (KE w (.slice pi t.init.length ci) (.slice pt t.threads.length ct) t.all (.pointer pa)) w.heap.size 27 #[.slice pi t.init.length ci,.slice pt t.threads.length ct,.bool t.all,.pointer pa]:=Sits.new _ _ _;have HX:=hid (hX.below hb0);have HT:=hid (hT.below hb0);have HB0:=hid hb0;have iW:=hid hbx;have HS:=hid ht;have HNF:=hid hn;have i1:(t.init.length:Int)<=1000:=by have:=ht.init;omega
 have i2:(t.threads.length:Int)<=1000:=by have:=ht.threads;omega
 have Bz:Hid (t.text=t.init.flatMap iq ++ (t.threads.flatMap gV ++ (tJ t.all ++ 32 :: (qC t.ask ++ [59,10])))):=hid rfl;clear hX hT hb0 hbx ht hn;unfold eU;go_enter Tryz.func9,Tryz.ntmps9;go_wp2_with fail
 change Calls _ _ _ ((KE w (.slice pi t.init.length ci) (.slice pt t.threads.length ct) t.all (.pointer pa)).alloc (.cells #[.pointer none,.slice none 0 0] tB)) _;generalize KE w (.slice pi t.init.length ci) (.slice pt t.threads.length ct) t.all (.pointer pa)=w0 at HX HT HB0 iW hz ⊢;generalize w.heap.size+1=bB at hz ⊢;subst hz;have HFB:=hid (AQ w0);have Ub:=hid (iW.out.alloc (.cells #[.pointer none,.slice none 0 0] tB));refine (xK w0.heap.size 0 (by omega) _).mono ?_;rintro e w1 ⟨vp,rfl,hp,hb⟩;obtain ⟨gb,gm,rfl,hp1,hp2⟩:=hp.fn;have HT1:Hid (Tx w0 w0.heap.size gb gm w.heap.size #[.slice pi t.init.length ci,.slice pt t.threads.length ct,.bool t.all,.pointer pa] [] w1):=hid ⟨HFB.out.grown hb,hp1,hp2,Ub.out.below hb Ub.out.lt⟩;have c0:=HT1.out.box.cell 0;have lb:=HT1.out.box.lt;generalize w.heap.size=bx at iW HT1 c0 lb ⊢;clear hp hb hp1 hp2 HFB Ub;go_wp2_with fail
 go_loopg [13] t.init.length (fun gg v13 wx=>∃ k,k<=t.init.length/\gg=t.init.length - k/\v13 = .int .i64 (k:Nat)/\Hid (Tx w0 w0.heap.size gb gm bx #[.slice pi t.init.length ci,.slice pt t.threads.length ct,.bool t.all,.pointer pa] ((t.init.take k).flatMap iq) wx))
 case atStart=>exact ⟨0,by omega,by omega,rfl,HT1⟩
 case round =>
  obtain ⟨k,hk,rfl,rfl,Vk⟩:=hrel;by_cases hlt:k<t.init.length
  ·have j1:(k:Int)<(t.init.length:Int):=by omega
   have j0:(0:Int)<=(k:Int):=by omega
   have hik:t.init[k]? = some t.init[k]:=List.getElem?_eq_getElem hlt;obtain ⟨g,o,cap,e1,c1,c2⟩:=(HT.out.init.below Vk.out.uI.low).at hik;injection e1 with e1 _ e2;subst e1 e2;have lg:=World.block_lt_of_cell? _ _ c1;have Js:=hid (HS.out.each _ (List.mem_of_getElem? hik));have Jt:=hid (BG iq t.init k _ hik);generalize t.init[k]=ik at c1 c2 Js Jt;obtain ⟨x,n⟩:=ik;simp only at c1 c2 Js
   have hx:=Js.out.1;have hL:((t.init.take k).flatMap iq).length<=40 * k:=by
    have:=BF (t.init.take k) (fun i hi=>(HS.out.each i (List.mem_of_mem_take hi)).2);rw [List.length_take] at this;omega
   have HL:=hid hL;have Yl:Hid (Tx w0 w0.heap.size gb gm bx #[.slice (some ⟨g,o,none⟩) t.init.length ci,.slice pt t.threads.length ct,.bool t.all,.pointer pa] ((t.init.take k).flatMap iq) (QD wr x n)):=hid (Vk.out.grown ((Below.refl _ _).alloc (Nat.le_refl _) _));have zC:Hid (Sits (QD wr x n) wr.heap.size 78 #[.int .u8 x,.int .u64 n]):=hid (Sits.new _ _ _);have HK:=hid hk;clear hL hik c0 hx hk;go_wp2_with fail
   change Code.wp _ _ _ _ (QD wr x n);generalize QD wr x n=wa at Yl zC ⊢;generalize wr.heap.size=ib at zC ⊢;have sP:=hid (fun W=>gG x Js.out.1 W);have Ym:=hid (fun W (h:Below w0.heap.size w0 W)=>qP n Js.out.2 W ((HX.out.1.below h).2))
   refine nJ [17,18,19,20,21,22,23,24] [aV (oP gb gm),aV (.pointer (some ⟨ib,0,none⟩)),aV (.int .u8 (x:Nat)),aV (.string (str [x.toUInt8])),aV (.pointer (some ⟨ib,1,none⟩)),aV (.int .u64 (n:Nat)),aV (.string (str (dec n))),
    uh 9 5 (words [[105,110,105,116,32],[x.toUInt8],[32,61,32],dec n,[59]])] (by kernel_rfl) (by kernel_rfl) (by kernel_rfl) (by rfl)
    (by simp only [List.mem_cons,List.not_mem_nil,or_false,forall_eq_or_imp,forall_eq];refine ⟨?_,?_,?_,?_,?_,?_,?_,?_⟩ <;> first | exact eH _ | exact rY _ _ _) ?_ ?_
   ·intro i o hi ho A W hW hk he
    simp only [List.length_cons,List.length_nil,Nat.zero_add,Nat.reduceAdd] at hi
    obtain rfl | rfl | rfl | rfl | rfl | rfl | rfl | rfl:i=0 \/ i=1 \/ i=2 \/ i=3 \/ i=4 \/ i=5 \/ i=6 \/ i=7:=by omega
    all_goals (injection ho with ho;subst ho)
    ·have h4:A.tmps[4]?.getD undef=oP gb gm:=hk 4 (by rfl)
     unfold oP at h4;go_simp
     exact ⟨rfl,Below.refl _ _⟩
    ·have h6:A.tmps[6]?.getD undef = .pointer (some ⟨ib,0,none⟩):=hk 6 (by rfl)
     go_simp
     exact ⟨rfl,Below.refl _ _⟩
    ·have hs:A.tmps[18]?.getD undef = .pointer (some ⟨ib,0,none⟩):=he 1 (by kernel_rfl)
     have cc:=(zC.out.below hW zC.out.lt).cell 0;go_simp
     exact ⟨rfl,Below.refl _ _⟩
    ·have hs:A.tmps[19]?.getD undef = .int .u8 (x:Nat):=he 2 (by kernel_rfl)
     go_simp
     refine Calls.mono (sP.out W) ?_;rintro e' w' ⟨rfl,hb⟩;exact ⟨_,rfl,rfl,hb⟩
    ·have h6:A.tmps[6]?.getD undef = .pointer (some ⟨ib,0,none⟩):=hk 6 (by rfl)
     go_simp
     exact ⟨rfl,Below.refl _ _⟩
    ·have hs:A.tmps[21]?.getD undef = .pointer (some ⟨ib,1,none⟩):=he 4 (by kernel_rfl)
     have cc:=(zC.out.below hW zC.out.lt).cell 1;go_simp
     exact ⟨rfl,Below.refl _ _⟩
    ·have hs:A.tmps[22]?.getD undef = .int .u64 (n:Nat):=he 5 (by kernel_rfl)
     go_simp
     refine Calls.mono (Ym.out W (Yl.out.uI.low.trans (hW.mono Yl.out.uI.low.size))) ?_;rintro e' w' ⟨rfl,hb⟩;exact ⟨_,rfl,rfl,hb⟩
    ·have hs3:A.tmps[20]?.getD undef = .string (str [x.toUInt8]):=he 3 (by kernel_rfl)
     have hs6:A.tmps[23]?.getD undef = .string (str (dec n)):=he 6 (by kernel_rfl);go_simp
     exact ⟨⟨_,rfl,Sits.new _ _ _⟩,(Below.refl _ _).alloc (Nat.le_refl _) _⟩
   ·intro xs W hW hV
    have e0:xs 0=oP gb gm:=hV 0 (by simp);obtain ⟨gw,ew,mQ⟩:uh 9 5 (words [[105,110,105,116,32],[x.toUInt8],[32,61,32],dec n,[59]]) (xs 7) W:=hV 7 (by simp);have HOW:=hid (Yl.out.grown hW);have Ua:=hid mQ;unfold oP at e0;simp only [List.length_cons,List.length_nil,Nat.zero_add,Nat.reduceAdd,List.drop_succ_cons,List.drop_zero,gZ,Act.put,List.setIfInBounds_toArray,List.set_cons_zero,List.set_cons_succ,e0,ew]
    clear hV mQ hW e0 ew;go_wp2_with fail
    have iB:=HOW.out.BC [[105,110,105,116,32],[x.toUInt8],[32,61,32],dec n,[59]] _ ⟨gw,rfl,Ua.out⟩ (by simp) (by
     have h1:=xR (x,n) Js.out.2;have h2:=congrArg List.length (vC x n);rw [List.length_append] at h2;have:=HL.out;have:=HK.out;have:=HS.out.init;simp only [List.length_cons,List.length_nil] at h2
     omega)
    rw [vC] at iB;refine iB.mono ?_;rintro e' w5 ⟨rfl,hO⟩;have Hd:=hid hO;clear hO iB;go_wp2_with fail
    go_roundg (t.init.length - (k+1))
    case measure=>omega
    case rel=>exact ⟨k+1,by omega,rfl,by go_num,hid (by rw [Jt.out];exact Hd.out)⟩
  ·obtain rfl:k=t.init.length:=by omega
   have j1:¬ ((t.init.length:Int)<(t.init.length:Int)):=by omega
   rw [List.take_of_length_le (Nat.le_refl _)] at Vk;have c1:=Vk.out.box.cell 1;have l1:=Vk.out.box.lt;clear c0;have hL1:(t.init.flatMap iq).length<=40000:=by
    have:=BF t.init (fun i hi=>(HS.out.each i hi).2);have:=HS.out.init;omega
   have xU:=hid hL1;clear hL1;go_wp2_with fail
   go_loopg [30] t.threads.length (fun gg v30 wx=>∃ k,k<=t.threads.length/\gg=t.threads.length - k/\v30 = .int .i64 (k:Nat)/\Hid (Tx w0 w0.heap.size gb gm bx #[.slice pi t.init.length ci,.slice pt t.threads.length ct,.bool t.all,.pointer pa] (t.init.flatMap iq ++ (t.threads.take k).flatMap gV) wx))
   case atStart=>exact ⟨0,by omega,by omega,rfl,hid (by simpa using Vk.out)⟩
   case round =>
    obtain ⟨k,hk,rfl,rfl,Uc⟩:=hrel;by_cases hlt:k<t.threads.length
    ·have j2:(k:Int)<(t.threads.length:Int):=by omega
     have j0:(0:Int)<=(k:Int):=by omega
     have hik:t.threads[k]? = some t.threads[k]:=List.getElem?_eq_getElem hlt;obtain ⟨g,o,cap,u,e1,c2,hst⟩:=HT.out.threads.at hik;injection e1 with e1 _ e2;subst e1 e2;have c3:=cell_below (U:=gu) Uc.out.uI.low g trivial _ _ c2;have lg:=World.block_lt_of_cell? _ _ c3;have Js:=hid (HS.out.fine _ (List.mem_of_getElem? hik));have og:=hid (HNF.out _ (List.mem_of_getElem? hik));have Jt:=hid (BG gV t.threads k _ hik);have hL2:((t.threads.take k).flatMap gV).length<=2400000011 * 1000:=by
      have:=xS (t.threads.take k) (fun b hb=>HS.out.fine b (List.mem_of_mem_take hb));have:=HS.out.threads;rw [List.length_take] at *;omega
     have HL2:=hid hL2;have HST:=hid hst;obtain ⟨pu,cu,rfl,_⟩:=hst.len;generalize t.threads[k]=b at Js og Jt HST c2 c3;have ZI:=hid (az.mr Js.out.1 1);clear hL2 hst hik hk c2 c1;go_wp2_with fail
     refine (Uc.out.line [116,104,114,101,97,100,32,123] (by rw [List.length_append];have:=xU.out;have:=HL2.out;simp only [List.length_cons,List.length_nil];omega)).mono ?_;rintro e' w3 ⟨rfl,hO⟩;have Pv:=hid hO;clear hO;go_wp2_with fail
     refine (Ns w0 HX.out w0.heap.size (b.size+1) b (by omega) Js.out.1 og.out 1 (by omega) _ _ _ HST.out Pv.out.uI (by simp only [List.length_append,List.length_cons,List.length_nil];have:=xU.out;have:=HL2.out;have:=Js.out.2;omega)).mono ?_;rintro e' w4 ⟨rfl,hB,hM⟩;have Yk:=hid (Pv.out.put hB hM);clear hB hM;go_wp2_with fail
     refine (Yk.out.line [125] (by simp only [List.length_append,List.length_cons,List.length_nil];have:=xU.out;have:=HL2.out;have:=Js.out.2;have:=ZI.out;omega)).mono ?_;rintro e' w5 ⟨rfl,hO⟩;have Hd:=hid hO;clear hO;go_wp2_with fail
     go_roundg (t.threads.length - (k+1))
     case measure=>omega
     case rel=>exact ⟨k+1,by omega,rfl,by go_num,hid (by
      rw [Jt.out];have h:=Hd.out;simp only [gV,List.append_assoc,List.cons_append,List.nil_append] at h ⊢
      exact h)⟩
    ·obtain rfl:k=t.threads.length:=by omega
     rw [List.take_of_length_le (Nat.le_refl _)] at Uc;have hL2:(t.threads.flatMap gV).length<=2400000011 * 1000:=by
      have:=xS t.threads (fun b hb=>HS.out.fine b hb);have:=HS.out.threads;omega
     have HL2:=hid hL2;have HQ:=hid (fun W=>KD (.slice pi t.init.length ci) (.slice pt t.threads.length ct) (.pointer pa) pi pt t.init.length t.threads.length ci ct t.all rfl rfl pa rfl W);have HA:=hid (fun W (h:Below w0.heap.size w0 W)=>wS t.ask HS.out.ask (.pointer pa) W (HX.out.1.below h) (HT.out.ask.below h));have GN:=hid (pM HS.out.ask);have Wm:(tJ t.all).length=6:=by cases t.all <;> rfl
     have AU:=hid Wm;clear hL2 c1 l1 Wm;go_wp2_with fail
     refine nJ [43,44,45,46,47,48,49] [aV (oP gb gm),aV (eU (.slice pi t.init.length ci) (.slice pt t.threads.length ct) t.all (.pointer pa)),aV (.string (str (tJ t.all))),aV (.pointer (some ⟨bx,3,none⟩)),aV (.pointer pa),aV (.string (str (qC t.ask))),
      uh 9 4 (words [tJ t.all,[32],qC t.ask,[59]])] (by kernel_rfl) (by kernel_rfl) (by kernel_rfl) (by rfl)
      (by simp only [List.mem_cons,List.not_mem_nil,or_false,forall_eq_or_imp,forall_eq];refine ⟨?_,?_,?_,?_,?_,?_,?_⟩ <;> first | exact eH _ | exact rY _ _ _) ?_ ?_
     ·intro i o hi ho A W hW hk he
      simp only [List.length_cons,List.length_nil,Nat.zero_add,Nat.reduceAdd] at hi
      obtain rfl | rfl | rfl | rfl | rfl | rfl | rfl:i=0 \/ i=1 \/ i=2 \/ i=3 \/ i=4 \/ i=5 \/ i=6:=by omega
      all_goals (injection ho with ho;subst ho)
      ·have h4:A.tmps[4]?.getD undef=oP gb gm:=hk 4 (by rfl)
       unfold oP at h4;go_simp
       exact ⟨rfl,Below.refl _ _⟩
      ·have h1:A.tmps[1]?.getD undef = .pointer (some ⟨bx,0,none⟩):=hk 1 (by rfl)
       have hO:=Uc.out.grown hW;have c0:=hO.box.cell 0;have c1:=hO.box.cell 1;have c2:=hO.box.cell 2;have c3:=hO.box.cell 3;go_simp
       exact ⟨rfl,Below.refl _ _⟩
      ·have hs:A.tmps[44]?.getD undef=eU (.slice pi t.init.length ci) (.slice pt t.threads.length ct) t.all (.pointer pa):=he 1 (by kernel_rfl)
       unfold eU at hs;go_simp
       refine Calls.mono (HQ.out W) ?_;rintro e' w' ⟨rfl,hb⟩;exact ⟨_,rfl,rfl,hb⟩
      ·have h1:A.tmps[1]?.getD undef = .pointer (some ⟨bx,0,none⟩):=hk 1 (by rfl)
       go_simp
       exact ⟨rfl,Below.refl _ _⟩
      ·have hs:A.tmps[46]?.getD undef = .pointer (some ⟨bx,3,none⟩):=he 3 (by kernel_rfl)
       have cc:=(Uc.out.grown hW).box.cell 3;go_simp
       exact ⟨rfl,Below.refl _ _⟩
      ·have hs:A.tmps[47]?.getD undef = .pointer pa:=he 4 (by kernel_rfl)
       go_simp
       refine Calls.mono (HA.out W (Uc.out.grown hW).uI.low) ?_;rintro e' w' ⟨rfl,hb⟩;exact ⟨_,rfl,rfl,hb⟩
      ·have hs2:A.tmps[45]?.getD undef = .string (str (tJ t.all)):=he 2 (by kernel_rfl)
       have hs5:A.tmps[48]?.getD undef = .string (str (qC t.ask)):=he 5 (by kernel_rfl);go_simp
       exact ⟨⟨_,rfl,Sits.new _ _ _⟩,(Below.refl _ _).alloc (Nat.le_refl _) _⟩
     ·intro xs W hW hV
      have e0:xs 0=oP gb gm:=hV 0 (by simp);obtain ⟨gw,ew,mQ⟩:uh 9 4 (words [tJ t.all,[32],qC t.ask,[59]]) (xs 6) W:=hV 6 (by simp);have HOW:=hid (Uc.out.grown hW);have Ua:=hid mQ;unfold oP at e0;simp only [List.length_cons,List.length_nil,Nat.zero_add,Nat.reduceAdd,List.drop_succ_cons,List.drop_zero,gZ,Act.put,List.setIfInBounds_toArray,List.set_cons_zero,List.set_cons_succ,e0,ew]
      clear hV mQ hW e0 ew;go_wp2_with fail
      refine (HOW.out.BC [tJ t.all,[32],qC t.ask,[59]] _ ⟨gw,rfl,Ua.out⟩ (by simp) (by
       simp only [List.length_append,List.flatten_cons,List.flatten_nil,List.length_cons,List.length_nil]
       have:=xU.out;have:=HL2.out;have:=GN.out;have:=AU.out
       omega)).mono ?_
      rintro e' w5 ⟨rfl,hO⟩;have Hd:=hid hO;clear hO;go_wp2_with fail
      refine (Tryz.Builder_String_any_k w0.heap.size w0.heap.size _ _ Hd.out.uI.is Hd.out.uI.low.size).mono ?_;rintro e' w6 ⟨rfl,_,hb,_⟩;have Wn:=hid (HB0.out.trans ((Hd.out.uI.low.trans hb).mono HB0.out.size));clear hb;go_wp2_with fail
      go_ret;refine ⟨?_,Wn.out⟩;refine I1 ?_;rw [Bz.out];simp [str]
end Go.Proofs.YtaanhmndeobgbaaGreatDoor.Prog
