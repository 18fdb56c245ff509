/- Part 23 of the proof: what is used of the texts PtlA, PtlB, PtlC, PtlD, PtlE, PtlF. -/
import Derived.Test.YtaanhmndeobgbaaGreatDoorGC1
set_option maxRecDepth 100000
set_option maxHeartbeats 1000000
namespace Go.Proofs.YtaanhmndeobgbaaGreatDoor.fT
open Go.RowKit Mem Go.Proofs.YtaanhmndeobgbaaGreatDoor.Expr Prog Go.Lib
open Lex (Tok)
structure dK (w:World) (v:Value) (ts:List Lex.Tok):Prop where
 at_:∃ g o c,v = .slice (some ⟨g,o,none⟩) ts.length c/\ts.length<=5000/\∀ (i r:Nat) (t:Lex.Tok),ts[i]? = some t->r<5->w.cell? ⟨g,o+i * 5+r,none⟩=(Lex.eG t)[r]?
theorem dK.below {w w':World} {v:Value} {ts:List Lex.Tok} (h:dK w v ts) (hb:Below w.heap.size w w'):dK w' v ts:=by
 obtain ⟨g,o,c,h1,h2,h3⟩:=h.at_;refine ⟨g,o,c,h1,h2,fun i r t ht hr=>?_⟩;have hx:=h3 i r t ht hr;have hl:r<(Lex.eG t).length:=hr;rw [List.getElem?_eq_getElem hl] at hx ⊢;exact cell_below (U:=gu) hb g trivial _ _ hx
def aZ (ts:List Lex.Tok) (kd k e:Nat):List UInt8:=if e=0/\au ts k=kd then aj ts k else []
theorem fZ (p:Option Addr) (n c k j e at' er:Nat) (w:World):Calls Tryz.prog 17 #[.agg #[.slice p n c,.int .i64 k,.int .i64 j,.int .i64 e],.int .i64 at',.int .i64 er] w fun x w'=>Made (.returned (.agg #[.slice p n c,.int .i64 k,.int .i64 ((if e=0 then at' else j:Nat)),.int .i64 ((if e=0 then er else e:Nat))])) w x w':=by
 by_cases h:e=0
 ·subst h
  rw [if_pos rfl,if_pos rfl];have hlow:Below w.heap.size w ((w.alloc (.cells #[.slice p n c,.int .i64 k,.int .i64 at',.int .i64 er] 57)).alloc (.cells #[.slice p n c,.int .i64 k,.int .i64 at',.int .i64 er] 57)):=((Below.refl _ _).alloc (Nat.le_refl _) _).alloc (by simp) _;have HL:=hid hlow;clear hlow;go_enter Tryz.func17,Tryz.ntmps17;go_wp2_with fail
  refine bodyPost_ret (v:=.agg #[.slice p n c,.int .i64 k,.int .i64 at',.int .i64 er]) (by simp [results,Tryz.results17,go_sem]) rfl ⟨rfl,HL.out⟩
 ·rw [if_neg h,if_neg h]
  have hne:¬ ((e:Int)=0):=by omega
  have hlow:Below w.heap.size w ((w.alloc (.cells #[.slice p n c,.int .i64 k,.int .i64 j,.int .i64 e] 57)).alloc (.cells #[.slice p n c,.int .i64 k,.int .i64 j,.int .i64 e] 57)):=((Below.refl _ _).alloc (Nat.le_refl _) _).alloc (by simp) _;have HL:=hid hlow;clear hlow h;go_enter Tryz.func17,Tryz.ntmps17;go_wp2_with fail
  refine bodyPost_ret (v:=.agg #[.slice p n c,.int .i64 k,.int .i64 j,.int .i64 e]) (by simp [results,Tryz.results17,go_sem]) rfl ⟨rfl,HL.out⟩
theorem bI (v:Value) (ts:List Lex.Tok) (k j e kd:Nat) (w:World) (hP:dK w v ts) (hk:e=0->k<ts.length):Calls Tryz.prog 14 #[.agg #[v,.int .i64 k,.int .i64 j,.int .i64 e],.int .u8 kd] w fun x w'=>Made (.returned (.string (str (aZ ts kd k e)))) w x w':=by
 obtain ⟨g,o,c,rfl,hn,hc⟩:=hP.at_;have HL:=hid (show Below w.heap.size w (w.alloc (.cells #[.slice (some ⟨g,o,none⟩) ts.length c,.int .i64 k,.int .i64 j,.int .i64 e] 57)) from (Below.refl _ _).alloc (Nat.le_refl _) _);by_cases h:e=0
 ·subst h
  have hk:=hk rfl;have ht:ts[k]? = some ts[k]:=List.getElem?_eq_getElem hk;have hkt:tk ts k=ts[k]:=by unfold tk;rw [List.getD_eq_getElem?_getD,ht];rfl
  have c0:w.cell? ⟨g,o+k * 5,none⟩=some (.int .u8 (tk ts k).kind):=by rw [hkt];exact hc k 0 _ ht (by omega)
  have c1:w.cell? ⟨g,o+k * 5+1,none⟩=some (.string (str (tk ts k).text)):=by rw [hkt];exact hc k 1 _ ht (by omega)
  have lg:=World.block_lt_of_cell? _ _ c0;have m1:(k:Int)<(ts.length:Int):=by omega
  have m2:(0:Int)<=(k:Int):=by omega
  have HK:=hid hk;clear hc ht hkt hk hP;by_cases hq:(tk ts k).kind=kd
  ·have hX:aZ ts kd k 0=(tk ts k).text:=if_pos ⟨rfl,hq⟩
   rw [hX];have hq':((tk ts k).kind:Int)=(kd:Int):=by omega
   rw [hq'] at c0;clear hX hq hq';generalize str (tk ts k).text=s at c1 ⊢;go_enter Tryz.func14,Tryz.ntmps14;go_wp2_with fail
   go_ret;exact ⟨rfl,HL.out⟩
  ·have hX:aZ ts kd k 0=[]:=if_neg fun h=>hq h.2
   rw [hX];have hq':¬ (((tk ts k).kind:Int)=(kd:Int)):=by omega
   have hb:(((tk ts k).kind:Int) == (kd:Int))=false:=by simpa using hq'
   clear hX hq;generalize (tk ts k).kind=kx at c0 hq' hb;generalize str (tk ts k).text=s at c1;go_enter Tryz.func14,Tryz.ntmps14;go_wp2_with fail
   go_ret;exact ⟨rfl,HL.out⟩
 ·have hX:aZ ts kd k e=[]:=if_neg fun h'=>h h'.1
  rw [hX];have hne:¬ ((e:Int)=0):=by omega
  clear hX h hc hP hk;go_enter Tryz.func14,Tryz.ntmps14;go_wp2_with fail
  go_ret;exact ⟨rfl,HL.out⟩
end Go.Proofs.YtaanhmndeobgbaaGreatDoor.fT
namespace Go.Proofs.YtaanhmndeobgbaaGreatDoor.fT
open Go.RowKit Mem Go.Proofs.YtaanhmndeobgbaaGreatDoor.Expr Prog Go.Lib
open Lex (Tok cO)
def aP {α:Type} (v:Value) (n:Nat) (o:Out α) (u:Value):Prop:=match o with
 | .ok _ k=>u = .agg #[v,.int .i64 (k:Nat),.int .i64 (0:Nat),.int .i64 (0:Nat)]/\k<n
 | .bad j e=>∃ k:Nat,u = .agg #[v,.int .i64 (k:Nat),.int .i64 (j:Nat),.int .i64 (e:Nat)]/\e≠0/\j<n/\k<n
def sD {α:Type} (v:Value) (n:Nat) (o:Out α) (w:World) (e:Ending) (w':World):Prop:=∃ u,e = .returned u/\aP v n o u/\Below w.heap.size w w'
section
variable {ts : List Lex.Tok}
theorem vF {kd k:Nat} {s:List UInt8} (hs:s ≠ []):aZ ts kd k 0=s ↔ au ts k=kd/\aj ts k=s:=by
 unfold aZ;by_cases h:au ts k=kd
 ·rw [if_pos ⟨rfl,h⟩];exact ⟨fun e=>⟨h,e⟩,fun e=>e.2⟩
 ·rw [if_neg fun e=>h e.2];exact ⟨fun e=>absurd e.symm hs,fun e=>absurd e.1 h⟩
theorem gW (hG:gM ts) {k:Nat} {s:List UInt8} (hs:∃ c r,s=c :: r/\cO c=false) (h:aj ts k=s):au ts k=3:=by
 obtain ⟨c,r,rfl,hc⟩:=hs;have:=hG.low k;have h0:=hG.fin k;have h1:=hG.digit k;have h2:=hG.word k;rw [h] at h0 h1 h2;obtain h3 | h3 | h3 | h3:au ts k=0 \/ au ts k=1 \/ au ts k=2 \/ au ts k=3:=by omega
 ·cases h0 h3
 ·obtain ⟨c',r',e,hd⟩:=h1 h3
  injection e with e _;subst e;simp [Lex.cO,Lex.iO,Lex.jA] at hc hd
  omega
 ·obtain ⟨c',r',e,hd⟩:=h2 h3
  injection e with e _;subst e;simp [Lex.cO,Lex.iO,Lex.jA] at hc hd
  omega
 ·exact h3
end
def aF (w:World) (g:Nat) (u0 u1 u2 u3:Value):World:=(((w.setCell ⟨g,0,none⟩ u0).setCell ⟨g,1,none⟩ u1).setCell ⟨g,2,none⟩ u2).setCell ⟨g,3,none⟩ u3
theorem aA {w:World} {g:Nat} {t:TypeId} {z0 z1 z2 z3:Value} (h:Sits w g t #[z0,z1,z2,z3]) (u0 u1 u2 u3:Value):Sits (aF w g u0 u1 u2 u3) g t #[u0,u1,u2,u3]:=(((h.put 0 u0).put 1 u1).put 2 u2).put 3 u3
theorem aG {B:Nat} {a w:World} (h:Below B a w) {g:Nat} (hg:B<=g) (u0 u1 u2 u3:Value):Below B a (aF w g u0 u1 u2 u3):=(((h.setCell hg u0).setCell hg u1).setCell hg u2).setCell hg u3
theorem NB {ts:List Lex.Tok} (p:Option Addr) (c k:Nat) (s:List UInt8) (w:World) (hP:dK w (.slice p ts.length c) ts) (hk:k<ts.length) (hx:aZ ts 3 k 0=s) :
  Calls Tryz.prog 16 #[.agg #[.slice p ts.length c,.int .i64 (k:Nat),.int .i64 (0:Nat),.int .i64 (0:Nat)],.string (str s)] w fun x w'=>Made (.returned (.agg #[.slice p ts.length c,.int .i64 ((k+1:Nat)),.int .i64 (0:Nat),.int .i64 (0:Nat)])) w x w':=by
 obtain ⟨g,ob,c',hv,hn,_⟩:=hP.at_;injection hv with hv1 _ hv2;subst hv1 hv2;have hlow:Below w.heap.size w ((w.alloc (.cells #[.slice (some ⟨g,ob,none⟩) ts.length c,.int .i64 (k:Nat),.int .i64 0,.int .i64 0] 57)).alloc (.cells #[.slice none 0 0,.int .i64 0,.int .i64 0,.int .i64 0] 57)):=((Below.refl _ _).alloc (Nat.le_refl _) _).alloc (by simp) _;have HA:=hid (show Sits ((w.alloc (.cells #[.slice (some ⟨g,ob,none⟩) ts.length c,.int .i64 (k:Nat),.int .i64 0,.int .i64 0] 57)).alloc (.cells #[.slice none 0 0,.int .i64 0,.int .i64 0,.int .i64 0] 57)) w.heap.size 57 #[.slice (some ⟨g,ob,none⟩) ts.length c,.int .i64 (k:Nat),.int .i64 0,.int .i64 0] from (Sits.new _ _ _).alloc _);have HZ:=hid (show Sits ((w.alloc (.cells #[.slice (some ⟨g,ob,none⟩) ts.length c,.int .i64 (k:Nat),.int .i64 0,.int .i64 0] 57)).alloc (.cells #[.slice none 0 0,.int .i64 0,.int .i64 0,.int .i64 0] 57)) (w.heap.size+1) 57 #[.slice none 0 0,.int .i64 0,.int .i64 0,.int .i64 0] from Sits.made (by simp) _ _);have HL:=hid hlow;have HT1:=hid (bI _ ts k 0 0 3 _ (hP.below hlow) (fun _=>hk));have Sj:=hid hx;have hw:IntKind.i64.wrap ((k:Int)+1)=((k+1:Nat):Int):=by rw [IntWalk.i64_in _ (by omega)];omega
 clear hlow hP hk hx hn;go_enter Tryz.func16,Tryz.ntmps16;go_wp2_with fail
 generalize (w.alloc (.cells #[.slice (some ⟨g,ob,none⟩) ts.length c,.int .i64 (k:Nat),.int .i64 0,.int .i64 0] 57)).alloc (.cells #[.slice none 0 0,.int .i64 0,.int .i64 0,.int .i64 0] 57)=w0 at HT1 HA HZ HL ⊢;refine HT1.out.mono ?_;rintro e w1 ⟨rfl,hb⟩;rw [Sj.out];have HA1:=hid (HA.out.below hb HA.out.lt);have HZ1:=hid (HZ.out.below hb HZ.out.lt);have xU:=hid (HL.out.trans (hb.mono HL.out.size));clear hb;generalize hgb:w.heap.size=gb at HA1 HZ1 ⊢;have di:=hid hgb;clear hgb;have a0:=HA1.out.cell 0;have a1:=HA1.out.cell 1;have a2:=HA1.out.cell 2;have a3:=HA1.out.cell 3;have la:=HA1.out.lt;have lz:=HZ1.out.lt;have z0:=HZ1.out.cell 0;have z1:=HZ1.out.cell 1;have z2:=HZ1.out.cell 2;have z3:=HZ1.out.cell 3;have f1:=HA1.out.free 1;have y0:=HZ1.out.free 0;have y1:=HZ1.out.free 1;have y2:=HZ1.out.free 2;have y3:=HZ1.out.free 3;go_wp2_with fail
 have hs:=aA (HZ1.out.far (p:=⟨gb,1,none⟩) (by simp) (.int .i64 ((k:Int)+1))) (.slice (some ⟨g,ob,none⟩) ts.length c) (.int .i64 ((k:Int)+1)) (.int .i64 0) (.int .i64 0);have hl:=aG (xU.out.setCell (p:=⟨gb,1,none⟩) (by have:=di.out;simp;omega) (.int .i64 ((k:Int)+1))) (g:=gb+1) (by have:=di.out;omega) (.slice (some ⟨g,ob,none⟩) ts.length c) (.int .i64 ((k:Int)+1)) (.int .i64 0) (.int .i64 0);change bodyPost _ _ _ _ _ (aF _ (gb+1) (.slice (some ⟨g,ob,none⟩) ts.length c) (.int .i64 ((k:Int)+1)) (.int .i64 0) (.int .i64 0));generalize aF _ (gb+1) (.slice (some ⟨g,ob,none⟩) ts.length c) (.int .i64 ((k:Int)+1)) (.int .i64 0) (.int .i64 0)=W at hs hl ⊢;have s0:=hs.cell 0;have s1:=hs.cell 1;have s2:=hs.cell 2;have s3:=hs.cell 3;have HF:=hid hl;clear a0 a1 a2 a3 la lz z0 z1 z2 z3 f1 y0 y1 y2 y3 hs hl;exact bodyPost_ret (v:=.agg #[.slice (some ⟨g,ob,none⟩) ts.length c,.int .i64 ((k+1:Nat)),.int .i64 (0:Nat),.int .i64 (0:Nat)]) (by simp [results,Tryz.results16,go_sem,s0,s1,s2,s3]) rfl ⟨rfl,HF.out⟩
theorem Jw {ts:List Lex.Tok} (p:Option Addr) (c k j e:Nat) (s:List UInt8) (w:World) (hP:dK w (.slice p ts.length c) ts) (hk:e=0->k<ts.length) (hx:aZ ts 3 k e≠s) :
  Calls Tryz.prog 16 #[.agg #[.slice p ts.length c,.int .i64 (k:Nat),.int .i64 (j:Nat),.int .i64 (e:Nat)],.string (str s)] w fun x w'=>Made (.returned (.agg #[.slice p ts.length c,.int .i64 (k:Nat),.int .i64 ((if e=0 then k else j:Nat)),.int .i64 ((if e=0 then 3 else e:Nat))])) w x w':=by
 obtain ⟨g,ob,c',hv,hn,_⟩:=hP.at_;injection hv with hv1 _ hv2;subst hv1 hv2;have hlow:Below w.heap.size w ((w.alloc (.cells #[.slice (some ⟨g,ob,none⟩) ts.length c,.int .i64 (k:Nat),.int .i64 (j:Nat),.int .i64 (e:Nat)] 57)).alloc (.cells #[.slice none 0 0,.int .i64 0,.int .i64 0,.int .i64 0] 57)):=((Below.refl _ _).alloc (Nat.le_refl _) _).alloc (by simp) _;have HA:=hid (show Sits ((w.alloc (.cells #[.slice (some ⟨g,ob,none⟩) ts.length c,.int .i64 (k:Nat),.int .i64 (j:Nat),.int .i64 (e:Nat)] 57)).alloc (.cells #[.slice none 0 0,.int .i64 0,.int .i64 0,.int .i64 0] 57)) w.heap.size 57 #[.slice (some ⟨g,ob,none⟩) ts.length c,.int .i64 (k:Nat),.int .i64 (j:Nat),.int .i64 (e:Nat)] from (Sits.new _ _ _).alloc _);have HZ:=hid (show Sits ((w.alloc (.cells #[.slice (some ⟨g,ob,none⟩) ts.length c,.int .i64 (k:Nat),.int .i64 (j:Nat),.int .i64 (e:Nat)] 57)).alloc (.cells #[.slice none 0 0,.int .i64 0,.int .i64 0,.int .i64 0] 57)) (w.heap.size+1) 57 #[.slice none 0 0,.int .i64 0,.int .i64 0,.int .i64 0] from Sits.made (by simp) _ _);have HL:=hid hlow;have HT1:=hid (bI _ ts k j e 3 _ (hP.below hlow) hk);have tO:=hid (fun W=>fZ (some ⟨g,ob,none⟩) ts.length c k j e k 3 W);have hd:((str (aZ ts 3 k e)).toList == (str s).toList)=false:=by rw [str_eq];exact decide_eq_false hx
 clear hlow hP hk hx hn;generalize str (aZ ts 3 k e)=s1 at HT1 hd;generalize str s=s2 at hd ⊢;generalize (if e=0 then k else j:Nat)=j' at tO ⊢;generalize (if e=0 then 3 else e:Nat)=e' at tO ⊢;go_enter Tryz.func16,Tryz.ntmps16;go_wp2_with fail
 generalize (w.alloc (.cells #[.slice (some ⟨g,ob,none⟩) ts.length c,.int .i64 (k:Nat),.int .i64 (j:Nat),.int .i64 (e:Nat)] 57)).alloc (.cells #[.slice none 0 0,.int .i64 0,.int .i64 0,.int .i64 0] 57)=w0 at HT1 HA HZ HL ⊢;refine HT1.out.mono ?_;rintro x w1 ⟨rfl,hb⟩;have HA1:=hid (HA.out.below hb HA.out.lt);have HZ1:=hid (HZ.out.below hb HZ.out.lt);have xU:=hid (HL.out.trans (hb.mono HL.out.size));clear hb;generalize hgb:w.heap.size=gb at HA1 HZ1 ⊢;have di:=hid hgb;clear hgb;have a0:=HA1.out.cell 0;have a1:=HA1.out.cell 1;have a2:=HA1.out.cell 2;have a3:=HA1.out.cell 3;have la:=HA1.out.lt;have lz:=HZ1.out.lt;have z0:=HZ1.out.cell 0;have z1:=HZ1.out.cell 1;have z2:=HZ1.out.cell 2;have z3:=HZ1.out.cell 3;have f1:=HA1.out.free 1;have y0:=HZ1.out.free 0;have y1:=HZ1.out.free 1;have y2:=HZ1.out.free 2;have y3:=HZ1.out.free 3;go_wp2_with fail
 refine (tO.out _).mono ?_;rintro x w2 ⟨rfl,hb⟩;have HZ2:=hid (HZ1.out.below hb HZ1.out.lt);have HL2:=hid (xU.out.trans (hb.mono xU.out.size));clear hb a0 a1 a2 a3 la lz z0 z1 z2 z3 f1 y0 y1 y2 y3;have lz:=HZ2.out.lt;have z0:=HZ2.out.cell 0;have z1:=HZ2.out.cell 1;have z2:=HZ2.out.cell 2;have z3:=HZ2.out.cell 3;have y0:=HZ2.out.free 0;have y1:=HZ2.out.free 1;have y2:=HZ2.out.free 2;have y3:=HZ2.out.free 3;go_wp2_with fail
 have hs:=aA HZ2.out (.slice (some ⟨g,ob,none⟩) ts.length c) (.int .i64 (k:Nat)) (.int .i64 (j':Nat)) (.int .i64 (e':Nat));have hl:=aG HL2.out (g:=gb+1) (by have:=di.out;omega) (.slice (some ⟨g,ob,none⟩) ts.length c) (.int .i64 (k:Nat)) (.int .i64 (j':Nat)) (.int .i64 (e':Nat));change bodyPost _ _ _ _ _ (aF _ (gb+1) (.slice (some ⟨g,ob,none⟩) ts.length c) (.int .i64 (k:Nat)) (.int .i64 (j':Nat)) (.int .i64 (e':Nat)));generalize aF _ (gb+1) (.slice (some ⟨g,ob,none⟩) ts.length c) (.int .i64 (k:Nat)) (.int .i64 (j':Nat)) (.int .i64 (e':Nat))=W at hs hl ⊢;have s0:=hs.cell 0;have s1:=hs.cell 1;have s2:=hs.cell 2;have s3:=hs.cell 3;have HF:=hid hl;clear lz z0 z1 z2 z3 y0 y1 y2 y3 hs hl hd;exact bodyPost_ret (v:=.agg #[.slice (some ⟨g,ob,none⟩) ts.length c,.int .i64 (k:Nat),.int .i64 (j':Nat),.int .i64 (e':Nat)]) (by simp [results,Tryz.results16,go_sem,s0,s1,s2,s3]) rfl ⟨rfl,HF.out⟩
theorem bF {α:Type} {v:Value} {ts:List Lex.Tok} {o:Out α} {u:Value} (hG:gM ts) (s:List UInt8) (hs:∃ c r,s=c :: r/\cO c=false) (w:World) (hP:dK w v ts) (hR:aP v ts.length o u) :
  Calls Tryz.prog 16 #[u,.string (str s)] w (sD v ts.length (o.bind fun _ k=>ak ts s k) w):=by
 have hne:s ≠ []:=by obtain ⟨c,r,rfl,_⟩:=hs;simp
 obtain ⟨g,ob,c,rfl,_,_⟩:=hP.at_;cases o with
 | ok a k =>
  obtain ⟨rfl,hk⟩:=hR;by_cases h:aj ts k=s
  ·have h3:=gW hG hs h
   have hkn:=hG.good.more k hk (by omega);refine (NB _ c k s w hP hk ((vF hne).2 ⟨h3,h⟩)).mono fun x w' ⟨hx,hb⟩=>⟨_,hx,?_,hb⟩
   show aP _ _ (ak ts s k) _
   unfold ak;rw [if_pos h];exact ⟨rfl,hkn⟩
  ·refine (Jw _ c k 0 0 s w hP (fun _=>hk) (fun hx=>h ((vF hne).1 hx).2)).mono fun x w' ⟨hx,hb⟩=>⟨_,hx,?_,hb⟩
   show aP _ _ (ak ts s k) _
   unfold ak;rw [if_neg h];exact ⟨k,rfl,by decide,hk,hk⟩
 | bad j e =>
  obtain ⟨k,rfl,he,hj,hkn⟩:=hR;refine (Jw _ c k j e s w hP (fun h=>absurd h he) (fun hx=>hne (by rw [<- hx];exact if_neg fun h=>he h.1))).mono fun x w' ⟨hx,hb⟩=>⟨_,hx,?_,hb⟩
  rw [if_neg he,if_neg he];exact ⟨k,rfl,he,hj,hkn⟩
structure qI (w:World) (v:Value) (ws:List (List UInt8)):Prop where
 at_:∃ g o c,v = .slice (some ⟨g,o,none⟩) ws.length c/\ws.length<=1000/\∀ (i:Nat) (x:List UInt8),ws[i]? = some x->w.cell? ⟨g,o+i,none⟩=some (.string (str x))
theorem qI.below {w w':World} {v:Value} {ws:List (List UInt8)} (h:qI w v ws) (hb:Below w.heap.size w w'):qI w' v ws:=by
 obtain ⟨g,o,c,h1,h2,h3⟩:=h.at_;exact ⟨g,o,c,h1,h2,fun i x hx=>cell_below (U:=gu) hb g trivial _ _ (h3 i x hx)⟩
theorem BK {ts:List Lex.Tok} (p:Option Addr) (c k j e:Nat) (ws:List (List UInt8)) (uw:Value) (w:World) (hP:dK w (.slice p ts.length c) ts) (hW:qI w uw ws) (hk:e=0->k<ts.length) (hx:aZ ts 2 k e=[]) :
  Calls Tryz.prog 19 #[.agg #[.slice p ts.length c,.int .i64 (k:Nat),.int .i64 (j:Nat),.int .i64 (e:Nat)],uw] w fun x w'=>Made (.returned (.tuple #[.string ⟨#[]⟩,.agg #[.slice p ts.length c,.int .i64 (k:Nat),.int .i64 ((if e=0 then k else j:Nat)),.int .i64 ((if e=0 then 3 else e:Nat))]])) w x w':=by
 obtain ⟨g,ob,c',hv,hn,_⟩:=hP.at_;injection hv with hv1 _ hv2;subst hv1 hv2;obtain ⟨gw,ow,cw,rfl,hwn,hwc⟩:=hW.at_;have NC:=hid hW;have hlow:Below w.heap.size w ((w.alloc (.cells #[.slice (some ⟨g,ob,none⟩) ts.length c,.int .i64 (k:Nat),.int .i64 (j:Nat),.int .i64 (e:Nat)] 57)).alloc (.cells #[.slice none 0 0,.int .i64 0,.int .i64 0,.int .i64 0] 57)):=((Below.refl _ _).alloc (Nat.le_refl _) _).alloc (by simp) _;have HA:=hid (show Sits ((w.alloc (.cells #[.slice (some ⟨g,ob,none⟩) ts.length c,.int .i64 (k:Nat),.int .i64 (j:Nat),.int .i64 (e:Nat)] 57)).alloc (.cells #[.slice none 0 0,.int .i64 0,.int .i64 0,.int .i64 0] 57)) w.heap.size 57 #[.slice (some ⟨g,ob,none⟩) ts.length c,.int .i64 (k:Nat),.int .i64 (j:Nat),.int .i64 (e:Nat)] from (Sits.new _ _ _).alloc _);have HZ:=hid (show Sits ((w.alloc (.cells #[.slice (some ⟨g,ob,none⟩) ts.length c,.int .i64 (k:Nat),.int .i64 (j:Nat),.int .i64 (e:Nat)] 57)).alloc (.cells #[.slice none 0 0,.int .i64 0,.int .i64 0,.int .i64 0] 57)) (w.heap.size+1) 57 #[.slice none 0 0,.int .i64 0,.int .i64 0,.int .i64 0] from Sits.made (by simp) _ _);have HL:=hid hlow;have HT1:=hid (show Calls Tryz.prog _ _ _ fun x w'=>Made (.returned (.string ⟨#[]⟩)) _ x w' from hx ▸ bI _ ts k j e 2 _ (hP.below hlow) hk);have tO:=hid (fun W=>fZ (some ⟨g,ob,none⟩) ts.length c k j e k 3 W);clear hlow hP hk hx hn hwc hwn hW;generalize (if e=0 then k else j:Nat)=j' at tO ⊢;generalize (if e=0 then 3 else e:Nat)=e' at tO ⊢;go_enter Tryz.func19,Tryz.ntmps19;go_wp2_with fail
 generalize (w.alloc (.cells #[.slice (some ⟨g,ob,none⟩) ts.length c,.int .i64 (k:Nat),.int .i64 (j:Nat),.int .i64 (e:Nat)] 57)).alloc (.cells #[.slice none 0 0,.int .i64 0,.int .i64 0,.int .i64 0] 57)=w0 at HT1 HA HZ HL ⊢;refine HT1.out.mono ?_;rintro x w1 ⟨rfl,hb⟩;have HA1:=hid (HA.out.below hb HA.out.lt);have HZ1:=hid (HZ.out.below hb HZ.out.lt);have xU:=hid (HL.out.trans (hb.mono HL.out.size));have HR1:=hid (NC.out.below xU.out);clear hb;generalize hgb:w.heap.size=gb at HA1 HZ1 ⊢;have di:=hid hgb;clear hgb;have a0:=HA1.out.cell 0;have a1:=HA1.out.cell 1;have a2:=HA1.out.cell 2;have a3:=HA1.out.cell 3;have la:=HA1.out.lt;have f1:=HA1.out.free 1;have z0:=HZ1.out.cell 0;have y0:=HZ1.out.free 0;have z1:=HZ1.out.cell 1;have y1:=HZ1.out.free 1;have z2:=HZ1.out.cell 2;have y2:=HZ1.out.free 2;have z3:=HZ1.out.cell 3;have y3:=HZ1.out.free 3;have lz:=HZ1.out.lt;go_wp2_with fail
 refine (tO.out _).mono ?_;rintro x w2 ⟨rfl,hb⟩;have HZ2:=hid (HZ1.out.below hb HZ1.out.lt);have HL2:=hid (xU.out.trans (hb.mono xU.out.size));clear hb a0 a1 a2 a3 la f1 z0 z1 z2 z3 y0 y1 y2 y3 lz;have z0:=HZ2.out.cell 0;have y0:=HZ2.out.free 0;have z1:=HZ2.out.cell 1;have y1:=HZ2.out.free 1;have z2:=HZ2.out.cell 2;have y2:=HZ2.out.free 2;have z3:=HZ2.out.cell 3;have y3:=HZ2.out.free 3;have lz:=HZ2.out.lt;go_wp2_with fail
 have hs:=aA HZ2.out (.slice (some ⟨g,ob,none⟩) ts.length c) (.int .i64 (k:Nat)) (.int .i64 (j':Nat)) (.int .i64 (e':Nat));have hl:=aG HL2.out (g:=gb+1) (by have:=di.out;omega) (.slice (some ⟨g,ob,none⟩) ts.length c) (.int .i64 (k:Nat)) (.int .i64 (j':Nat)) (.int .i64 (e':Nat));change bodyPost _ _ _ _ _ (aF _ (gb+1) (.slice (some ⟨g,ob,none⟩) ts.length c) (.int .i64 (k:Nat)) (.int .i64 (j':Nat)) (.int .i64 (e':Nat)));generalize aF _ (gb+1) (.slice (some ⟨g,ob,none⟩) ts.length c) (.int .i64 (k:Nat)) (.int .i64 (j':Nat)) (.int .i64 (e':Nat))=W at hs hl ⊢;have s0:=hs.cell 0;have s1:=hs.cell 1;have s2:=hs.cell 2;have s3:=hs.cell 3;have HF:=hid hl;clear hs hl z0 z1 z2 z3 y0 y1 y2 y3 lz;exact bodyPost_ret (v:=.tuple #[.string ⟨#[]⟩,.agg #[.slice (some ⟨g,ob,none⟩) ts.length c,.int .i64 (k:Nat),.int .i64 (j':Nat),.int .i64 (e':Nat)]]) (by simp [results,Tryz.results19,go_sem,s0,s1,s2,s3]) rfl ⟨rfl,HF.out⟩
theorem KM {ts:List Lex.Tok} (p:Option Addr) (c k:Nat) (ws:List (List UInt8)) (uw:Value) (w:World) (hP:dK w (.slice p ts.length c) ts) (hW:qI w uw ws) (s:List UInt8) (hs:s ≠ []) (hk:k<ts.length) (hx:aZ ts 2 k 0=s) (hin:s ∉ ws) :
  Calls Tryz.prog 19 #[.agg #[.slice p ts.length c,.int .i64 (k:Nat),.int .i64 (0:Nat),.int .i64 (0:Nat)],uw] w fun x w'=>Made (.returned (.tuple #[.string ⟨#[]⟩,.agg #[.slice p ts.length c,.int .i64 (k:Nat),.int .i64 (k:Nat),.int .i64 7]])) w x w':=by
 obtain ⟨g,ob,c',hv,hn,_⟩:=hP.at_;injection hv with hv1 _ hv2;subst hv1 hv2;obtain ⟨gw,ow,cw,rfl,hwn,hwc⟩:=hW.at_;have NC:=hid hW;have hlow:Below w.heap.size w ((w.alloc (.cells #[.slice (some ⟨g,ob,none⟩) ts.length c,.int .i64 (k:Nat),.int .i64 0,.int .i64 0] 57)).alloc (.cells #[.slice none 0 0,.int .i64 0,.int .i64 0,.int .i64 0] 57)):=((Below.refl _ _).alloc (Nat.le_refl _) _).alloc (by simp) _;have HA:=hid (show Sits ((w.alloc (.cells #[.slice (some ⟨g,ob,none⟩) ts.length c,.int .i64 (k:Nat),.int .i64 0,.int .i64 0] 57)).alloc (.cells #[.slice none 0 0,.int .i64 0,.int .i64 0,.int .i64 0] 57)) w.heap.size 57 #[.slice (some ⟨g,ob,none⟩) ts.length c,.int .i64 (k:Nat),.int .i64 0,.int .i64 0] from (Sits.new _ _ _).alloc _);have HZ:=hid (show Sits ((w.alloc (.cells #[.slice (some ⟨g,ob,none⟩) ts.length c,.int .i64 (k:Nat),.int .i64 0,.int .i64 0] 57)).alloc (.cells #[.slice none 0 0,.int .i64 0,.int .i64 0,.int .i64 0] 57)) (w.heap.size+1) 57 #[.slice none 0 0,.int .i64 0,.int .i64 0,.int .i64 0] from Sits.made (by simp) _ _);have HL:=hid hlow;have HT1:=hid (show Calls Tryz.prog _ _ _ fun x w'=>Made (.returned (.string (str s))) _ x w' from hx ▸ bI _ ts k 0 0 2 _ (hP.below hlow) (fun _=>hk));have tO:=hid (fun W=>fZ (some ⟨g,ob,none⟩) ts.length c k 0 0 k 7 W);have HS:=hid hs;have hd0:((str s).toList == ([]:List UInt8))=false:=by rw [show ([]:List UInt8)=(str []).toList by simp [str],str_eq];exact decide_eq_false hs
 have yt:=hid (fun x=>str_eq x s);have Yo:=hid hin;have HWN:=hid hwn;have hw:IntKind.i64.wrap ((k:Int)+1)=((k:Int)+1):=by rw [IntWalk.i64_in _ (by omega)]
 have m3:(ws.length:Int)<=1000:=by omega
 clear hlow hP hk hx hn hwc hwn hW hs hin;go_enter Tryz.func19,Tryz.ntmps19;go_wp2_with fail
 generalize (w.alloc (.cells #[.slice (some ⟨g,ob,none⟩) ts.length c,.int .i64 (k:Nat),.int .i64 0,.int .i64 0] 57)).alloc (.cells #[.slice none 0 0,.int .i64 0,.int .i64 0,.int .i64 0] 57)=w0 at HT1 HA HZ HL ⊢;refine HT1.out.mono ?_;rintro x w1 ⟨rfl,hb⟩;have HA1:=hid (HA.out.below hb HA.out.lt);have HZ1:=hid (HZ.out.below hb HZ.out.lt);have xU:=hid (HL.out.trans (hb.mono HL.out.size));have HR1:=hid (NC.out.below xU.out);clear hb;generalize hgb:w.heap.size=gb at HA1 HZ1 ⊢;have di:=hid hgb;clear hgb;generalize hss:str s=s' at hd0 yt ⊢;have AV:=hid hss;clear hss;have a0:=HA1.out.cell 0;have a1:=HA1.out.cell 1;have a2:=HA1.out.cell 2;have a3:=HA1.out.cell 3;have la:=HA1.out.lt;have f1:=HA1.out.free 1;have z0:=HZ1.out.cell 0;have y0:=HZ1.out.free 0;have z1:=HZ1.out.cell 1;have y1:=HZ1.out.free 1;have z2:=HZ1.out.cell 2;have y2:=HZ1.out.free 2;have z3:=HZ1.out.cell 3;have y3:=HZ1.out.free 3;have lz:=HZ1.out.lt;go_wp2_with fail
 clear a0 a1 a2 a3 la f1 z0 z1 z2 z3 y0 y1 y2 y3 lz hd0
 go_loopg [7] ws.length (fun gg v7 wx=>∃ i,i<=ws.length/\gg=ws.length - i/\v7 = .int .i64 (i:Nat)/\Hid (Sits wx gb 57 #[.slice (some ⟨g,ob,none⟩) ts.length c,.int .i64 (k:Nat),.int .i64 0,.int .i64 0])/\Hid (Sits wx (gb+1) 57 #[.slice none 0 0,.int .i64 0,.int .i64 0,.int .i64 0])/\Hid (Below w.heap.size w wx)/\Hid (∀ (q:Nat) (x:List UInt8),q<i->ws[q]? = some x->x≠s))
 case atStart=>exact ⟨0,by omega,by omega,rfl,HA1,HZ1,xU,hid fun q x h=>by omega⟩
 case round =>
  obtain ⟨i,hi,rfl,rfl,HA2,HZ2,HL2,HN⟩:=hrel;have a0:=HA2.out.cell 0;have a1:=HA2.out.cell 1;have a2:=HA2.out.cell 2;have a3:=HA2.out.cell 3;have la:=HA2.out.lt;have f1:=HA2.out.free 1;have z0:=HZ2.out.cell 0;have y0:=HZ2.out.free 0;have z1:=HZ2.out.cell 1;have y1:=HZ2.out.free 1;have z2:=HZ2.out.cell 2;have y2:=HZ2.out.free 2;have z3:=HZ2.out.cell 3;have y3:=HZ2.out.free 3;have lz:=HZ2.out.lt;by_cases hlt:i<ws.length
  ·have hy:ws[i]? = some ws[i]:=List.getElem?_eq_getElem hlt
   generalize ws[i]=y at hy;obtain ⟨gw',ow',cw',ev,_,hwc⟩:=(NC.out.below HL2.out).at_;injection ev with Uf _ ZJ;injection Uf with Uf;injection Uf with ZK ZL;subst ZJ ZK ZL;have cy:=hwc i y hy;have lgw:=World.block_lt_of_cell? _ _ cy;have m1:(i:Int)<(ws.length:Int):=by omega
   have m2:(0:Int)<=(i:Int):=by omega
   have HY:=hid hy;have HI:=hid hlt;have hdy:=yt.out y;by_cases hc:y=s
   ·exact absurd hc (fun hc=>Yo.out (hc ▸ List.mem_of_getElem? hy))
   ·rw [decide_eq_false hc] at hdy
    have HC:=hid hc;clear hc hy hwc hlt hi;generalize str y=ys at cy hdy;go_wp2_with fail
    go_roundg (ws.length - (i+1))
    case measure=>have:=HI.out;omega
    case rel=>exact ⟨i+1,HI.out,rfl,by go_num,HA2,HZ2,HL2,hid fun q x hq hx=>by
     by_cases e:q<i
     ·exact HN.out q x e hx
     ·obtain rfl:q=i:=by omega
      rw [HY.out] at hx;cases hx;exact HC.out⟩
  ·obtain rfl:i=ws.length:=by omega
   have m1:¬ ((ws.length:Int)<(ws.length:Int)):=by omega
   clear hlt hi;go_wp2_with fail
   refine (tO.out _).mono ?_;rintro x w2 ⟨rfl,hb⟩;have HZ3:=hid (HZ2.out.below hb HZ2.out.lt);have BA:=hid (HL2.out.trans (hb.mono HL2.out.size));clear hb a0 a1 a2 a3 la f1 z0 z1 z2 z3 y0 y1 y2 y3 lz;have z0:=HZ3.out.cell 0;have y0:=HZ3.out.free 0;have z1:=HZ3.out.cell 1;have y1:=HZ3.out.free 1;have z2:=HZ3.out.cell 2;have y2:=HZ3.out.free 2;have z3:=HZ3.out.cell 3;have y3:=HZ3.out.free 3;have lz:=HZ3.out.lt;go_wp2_with fail
   have hs:=aA HZ3.out (.slice (some ⟨g,ob,none⟩) ts.length c) (.int .i64 (k:Nat)) (.int .i64 (k:Nat)) (.int .i64 7);have hl:=aG BA.out (g:=gb+1) (by have:=di.out;omega) (.slice (some ⟨g,ob,none⟩) ts.length c) (.int .i64 (k:Nat)) (.int .i64 (k:Nat)) (.int .i64 7);change bodyPost _ _ _ _ _ (aF _ (gb+1) (.slice (some ⟨g,ob,none⟩) ts.length c) (.int .i64 (k:Nat)) (.int .i64 (k:Nat)) (.int .i64 7));generalize aF _ (gb+1) (.slice (some ⟨g,ob,none⟩) ts.length c) (.int .i64 (k:Nat)) (.int .i64 (k:Nat)) (.int .i64 7)=W at hs hl ⊢;have s0:=hs.cell 0;have s1:=hs.cell 1;have s2:=hs.cell 2;have s3:=hs.cell 3;have HF:=hid hl;clear hs hl z0 z1 z2 z3 y0 y1 y2 y3 lz;exact bodyPost_ret (v:=.tuple #[.string ⟨#[]⟩,.agg #[.slice (some ⟨g,ob,none⟩) ts.length c,.int .i64 (k:Nat),.int .i64 (k:Nat),.int .i64 7]]) (by simp [results,Tryz.results19,go_sem,s0,s1,s2,s3]) rfl ⟨rfl,HF.out⟩
theorem NF {ts:List Lex.Tok} (p:Option Addr) (c k:Nat) (ws:List (List UInt8)) (uw:Value) (w:World) (hP:dK w (.slice p ts.length c) ts) (hW:qI w uw ws) (s:List UInt8) (hs:s ≠ []) (hk:k<ts.length) (hx:aZ ts 2 k 0=s) (hin:s ∈ ws) :
  Calls Tryz.prog 19 #[.agg #[.slice p ts.length c,.int .i64 (k:Nat),.int .i64 (0:Nat),.int .i64 (0:Nat)],uw] w fun x w'=>Made (.returned (.tuple #[.string (str s),.agg #[.slice p ts.length c,.int .i64 ((k+1:Nat)),.int .i64 0,.int .i64 0]])) w x w':=by
 obtain ⟨g,ob,c',hv,hn,_⟩:=hP.at_;injection hv with hv1 _ hv2;subst hv1 hv2;obtain ⟨gw,ow,cw,rfl,hwn,hwc⟩:=hW.at_;have NC:=hid hW;have hlow:Below w.heap.size w ((w.alloc (.cells #[.slice (some ⟨g,ob,none⟩) ts.length c,.int .i64 (k:Nat),.int .i64 0,.int .i64 0] 57)).alloc (.cells #[.slice none 0 0,.int .i64 0,.int .i64 0,.int .i64 0] 57)):=((Below.refl _ _).alloc (Nat.le_refl _) _).alloc (by simp) _;have HA:=hid (show Sits ((w.alloc (.cells #[.slice (some ⟨g,ob,none⟩) ts.length c,.int .i64 (k:Nat),.int .i64 0,.int .i64 0] 57)).alloc (.cells #[.slice none 0 0,.int .i64 0,.int .i64 0,.int .i64 0] 57)) w.heap.size 57 #[.slice (some ⟨g,ob,none⟩) ts.length c,.int .i64 (k:Nat),.int .i64 0,.int .i64 0] from (Sits.new _ _ _).alloc _);have HZ:=hid (show Sits ((w.alloc (.cells #[.slice (some ⟨g,ob,none⟩) ts.length c,.int .i64 (k:Nat),.int .i64 0,.int .i64 0] 57)).alloc (.cells #[.slice none 0 0,.int .i64 0,.int .i64 0,.int .i64 0] 57)) (w.heap.size+1) 57 #[.slice none 0 0,.int .i64 0,.int .i64 0,.int .i64 0] from Sits.made (by simp) _ _);have HL:=hid hlow;have HT1:=hid (show Calls Tryz.prog _ _ _ fun x w'=>Made (.returned (.string (str s))) _ x w' from hx ▸ bI _ ts k 0 0 2 _ (hP.below hlow) (fun _=>hk));have tO:=hid (fun W=>fZ (some ⟨g,ob,none⟩) ts.length c k 0 0 k 7 W);have HS:=hid hs;have hd0:((str s).toList == ([]:List UInt8))=false:=by rw [show ([]:List UInt8)=(str []).toList by simp [str],str_eq];exact decide_eq_false hs
 have yt:=hid (fun x=>str_eq x s);have Yo:=hid hin;have HWN:=hid hwn;have hw:IntKind.i64.wrap ((k:Int)+1)=((k:Int)+1):=by rw [IntWalk.i64_in _ (by omega)]
 have m3:(ws.length:Int)<=1000:=by omega
 clear hlow hP hk hx hn hwc hwn hW hs hin;go_enter Tryz.func19,Tryz.ntmps19;go_wp2_with fail
 generalize (w.alloc (.cells #[.slice (some ⟨g,ob,none⟩) ts.length c,.int .i64 (k:Nat),.int .i64 0,.int .i64 0] 57)).alloc (.cells #[.slice none 0 0,.int .i64 0,.int .i64 0,.int .i64 0] 57)=w0 at HT1 HA HZ HL ⊢;refine HT1.out.mono ?_;rintro x w1 ⟨rfl,hb⟩;have HA1:=hid (HA.out.below hb HA.out.lt);have HZ1:=hid (HZ.out.below hb HZ.out.lt);have xU:=hid (HL.out.trans (hb.mono HL.out.size));have HR1:=hid (NC.out.below xU.out);clear hb;generalize hgb:w.heap.size=gb at HA1 HZ1 ⊢;have di:=hid hgb;clear hgb;generalize hss:str s=s' at hd0 yt ⊢;have AV:=hid hss;clear hss;have a0:=HA1.out.cell 0;have a1:=HA1.out.cell 1;have a2:=HA1.out.cell 2;have a3:=HA1.out.cell 3;have la:=HA1.out.lt;have f1:=HA1.out.free 1;have z0:=HZ1.out.cell 0;have y0:=HZ1.out.free 0;have z1:=HZ1.out.cell 1;have y1:=HZ1.out.free 1;have z2:=HZ1.out.cell 2;have y2:=HZ1.out.free 2;have z3:=HZ1.out.cell 3;have y3:=HZ1.out.free 3;have lz:=HZ1.out.lt;go_wp2_with fail
 clear a0 a1 a2 a3 la f1 z0 z1 z2 z3 y0 y1 y2 y3 lz hd0
 go_loopg [7] ws.length (fun gg v7 wx=>∃ i,i<=ws.length/\gg=ws.length - i/\v7 = .int .i64 (i:Nat)/\Hid (Sits wx gb 57 #[.slice (some ⟨g,ob,none⟩) ts.length c,.int .i64 (k:Nat),.int .i64 0,.int .i64 0])/\Hid (Sits wx (gb+1) 57 #[.slice none 0 0,.int .i64 0,.int .i64 0,.int .i64 0])/\Hid (Below w.heap.size w wx)/\Hid (∀ (q:Nat) (x:List UInt8),q<i->ws[q]? = some x->x≠s))
 case atStart=>exact ⟨0,by omega,by omega,rfl,HA1,HZ1,xU,hid fun q x h=>by omega⟩
 case round =>
  obtain ⟨i,hi,rfl,rfl,HA2,HZ2,HL2,HN⟩:=hrel;have a0:=HA2.out.cell 0;have a1:=HA2.out.cell 1;have a2:=HA2.out.cell 2;have a3:=HA2.out.cell 3;have la:=HA2.out.lt;have f1:=HA2.out.free 1;have z0:=HZ2.out.cell 0;have y0:=HZ2.out.free 0;have z1:=HZ2.out.cell 1;have y1:=HZ2.out.free 1;have z2:=HZ2.out.cell 2;have y2:=HZ2.out.free 2;have z3:=HZ2.out.cell 3;have y3:=HZ2.out.free 3;have lz:=HZ2.out.lt;by_cases hlt:i<ws.length
  ·have hy:ws[i]? = some ws[i]:=List.getElem?_eq_getElem hlt
   generalize ws[i]=y at hy;obtain ⟨gw',ow',cw',ev,_,hwc⟩:=(NC.out.below HL2.out).at_;injection ev with Uf _ ZJ;injection Uf with Uf;injection Uf with ZK ZL;subst ZJ ZK ZL;have cy:=hwc i y hy;have lgw:=World.block_lt_of_cell? _ _ cy;have m1:(i:Int)<(ws.length:Int):=by omega
   have m2:(0:Int)<=(i:Int):=by omega
   have HY:=hid hy;have HI:=hid hlt;have hdy:=yt.out y;by_cases hc:y=s
   ·rw [decide_eq_true hc] at hdy
    rw [hc,AV.out] at cy;clear hc hy hwc hlt hi hdy;go_wp2_with fail
    go_region
    go_wp2_with fail
    have hs:=Sits.drew <| aA (HZ2.out.far (p:=⟨gb,1,none⟩) (by simp) (.int .i64 ((k:Int)+1))) (.slice (some ⟨g,ob,none⟩) ts.length c) (.int .i64 ((k:Int)+1)) (.int .i64 0) (.int .i64 0);have hl:=Below.drew <| aG (HL2.out.setCell (p:=⟨gb,1,none⟩) (by have:=di.out;simp;omega) (.int .i64 ((k:Int)+1))) (g:=gb+1) (by have:=di.out;omega) (.slice (some ⟨g,ob,none⟩) ts.length c) (.int .i64 ((k:Int)+1)) (.int .i64 0) (.int .i64 0);change bodyPost _ _ _ _ _ (World.drew <| aF _ (gb+1) (.slice (some ⟨g,ob,none⟩) ts.length c) (.int .i64 ((k:Int)+1)) (.int .i64 0) (.int .i64 0));generalize World.drew (aF _ (gb+1) (.slice (some ⟨g,ob,none⟩) ts.length c) (.int .i64 ((k:Int)+1)) (.int .i64 0) (.int .i64 0))=W at hs hl ⊢;have s0:=hs.cell 0;have s1:=hs.cell 1;have s2:=hs.cell 2;have s3:=hs.cell 3;have HF:=hid hl;clear hs hl a0 a1 a2 a3 la f1 z0 z1 z2 z3 y0 y1 y2 y3 lz cy;exact bodyPost_ret (v:=.tuple #[.string s',.agg #[.slice (some ⟨g,ob,none⟩) ts.length c,.int .i64 ((k+1:Nat)),.int .i64 0,.int .i64 0]]) (by simp [results,Tryz.results19,go_sem,s0,s1,s2,s3]) rfl ⟨by rw [AV.out],HF.out⟩
   ·rw [decide_eq_false hc] at hdy
    have HC:=hid hc;clear hc hy hwc hlt hi;generalize str y=ys at cy hdy;go_wp2_with fail
    go_roundg (ws.length - (i+1))
    case measure=>have:=HI.out;omega
    case rel=>exact ⟨i+1,HI.out,rfl,by go_num,HA2,HZ2,HL2,hid fun q x hq hx=>by
     by_cases e:q<i
     ·exact HN.out q x e hx
     ·obtain rfl:q=i:=by omega
      rw [HY.out] at hx;cases hx;exact HC.out⟩
  ·obtain rfl:i=ws.length:=by omega
   exact absurd rfl (HN.out _ s (List.getElem?_eq_some_iff.1 (List.getElem?_of_mem Yo.out).choose_spec).1 (List.getElem?_of_mem Yo.out).choose_spec)
def bg (ts:List Lex.Tok) (ws:List (List UInt8)) (k:Nat):Out (List UInt8):=if au ts k=2 then (if aj ts k ∈ ws then .ok (aj ts k) (k+1) else .bad k 7) else .bad k 3
def NG (v:Value) (n:Nat) (o:Out (List UInt8)) (w:World) (e:Ending) (w':World):Prop :=
 ∃ u x,e = .returned (.tuple #[.string (str x),u])/\aP v n o u/\(∀ a k,o = .ok a k->x=a/\a ≠ [])/\(∀ j er,o = .bad j er->x=[])/\Below w.heap.size w w'
theorem sF {α:Type} {v uw:Value} {ts:List Lex.Tok} {ws:List (List UInt8)} {o:Out α} {u:Value} (hG:gM ts) (w:World) (hP:dK w v ts) (hW:qI w uw ws) (hR:aP v ts.length o u) :
  Calls Tryz.prog 19 #[u,uw] w (NG v ts.length (o.bind fun _ k=>bg ts ws k) w):=by
 obtain ⟨g,ob,c,rfl,_,_⟩:=hP.at_;cases o with
 | ok a k =>
  obtain ⟨rfl,hk⟩:=hR;by_cases h:au ts k=2
  ·obtain ⟨b,r,hbr,_⟩:=hG.word k h
   have hne:aj ts k ≠ []:=by rw [hbr];simp
   have hx:aZ ts 2 k 0=aj ts k:=if_pos ⟨rfl,h⟩;have hkn:=hG.good.more k hk (by omega);by_cases hin:aj ts k ∈ ws
   ·have hE:(Out.ok a k).bind (fun _ k=>bg ts ws k) = .ok (aj ts k) (k+1):=by show bg ts ws k=_;unfold bg;rw [if_pos h,if_pos hin]
    rw [hE];refine (NF _ c k ws uw w hP hW _ hne hk hx hin).mono fun x w' ⟨hx,hb⟩=>⟨_,_,hx,⟨rfl,hkn⟩,?_,?_,hb⟩
    ·rintro _ _ e;injection e with e _;exact ⟨e,e ▸ hne⟩
    ·rintro _ _ e;cases e
   ·have hE:(Out.ok a k).bind (fun _ k=>bg ts ws k) = .bad k 7:=by show bg ts ws k=_;unfold bg;rw [if_pos h,if_neg hin]
    rw [hE];refine (KM _ c k ws uw w hP hW _ hne hk hx hin).mono fun x w' ⟨hx,hb⟩=>⟨_,[],hx,⟨k,rfl,by decide,hk,hk⟩,?_,?_,hb⟩
    ·rintro _ _ e;cases e
    ·rintro _ _ _;rfl
  ·have hE:(Out.ok a k).bind (fun _ k=>bg ts ws k) = .bad k 3:=by show bg ts ws k=_;unfold bg;rw [if_neg h]
   rw [hE];refine (BK _ c k 0 0 ws uw w hP hW (fun _=>hk) (if_neg fun e=>h e.2)).mono fun x w' ⟨hx,hb⟩=>⟨_,[],hx,⟨k,rfl,by decide,hk,hk⟩,?_,?_,hb⟩
   ·rintro _ _ e;cases e
   ·rintro _ _ _;rfl
 | bad j e =>
  obtain ⟨k,rfl,he,hj,hkn⟩:=hR;have hE:(Out.bad (α:=α) j e).bind (fun _ k=>bg ts ws k) = .bad j e:=rfl;rw [hE];refine (BK _ c k j e ws uw w hP hW (fun h=>absurd h he) (if_neg fun h=>he h.1)).mono fun x w' ⟨hx,hb⟩=>⟨_,[],hx,?_,?_,?_,hb⟩
  ·rw [if_neg he,if_neg he]
   exact ⟨k,rfl,he,hj,hkn⟩
  ·rintro _ _ e;cases e
  ·rintro _ _ _;rfl
def bE:List (List UInt8):=[[114,48],[114,49],[114,50],[114,51],[114,52],[114,53],[114,54],[114,55]]
def BL (ws:List (List UInt8)) (w:World) (e:Ending) (w':World):Prop:=∃ v,e = .returned v/\qI w' v ws/\Below w.heap.size w w'
theorem AX (w:World):Calls Tryz.prog 124 #[] w (BL bE w):=by
 have hb:Below w.heap.size w (w.alloc (.cells #[.string ⟨#[114,48]⟩,.string ⟨#[114,49]⟩,.string ⟨#[114,50]⟩,.string ⟨#[114,51]⟩,.string ⟨#[114,52]⟩,.string ⟨#[114,53]⟩,.string ⟨#[114,54]⟩,.string ⟨#[114,55]⟩] 9)):=(Below.refl _ _).alloc (Nat.le_refl _) _;have HB:=hid hb;have HS:=hid (Sits.new w 9 #[.string ⟨#[114,48]⟩,.string ⟨#[114,49]⟩,.string ⟨#[114,50]⟩,.string ⟨#[114,51]⟩,.string ⟨#[114,52]⟩,.string ⟨#[114,53]⟩,.string ⟨#[114,54]⟩,.string ⟨#[114,55]⟩]);clear hb;go_enter Tryz.func124,Tryz.ntmps124;go_wp2_with fail
 go_ret;refine ⟨_,rfl,⟨_,0,8,rfl,by decide,fun i x hx=>?_⟩,HB.out⟩;rw [Nat.zero_add];refine (HS.out.cell i).trans ?_;rcases i with _ | _ | _ | _ | _ | _ | _ | _ | i
 all_goals first | (have e:=Option.some.inj hx;subst e;rfl) | (simp [bE] at hx)
def fE (kd:Nat):List Nat:=if kd=2 then [1,2,3] else if kd=3 then [1,2,4] else if kd=7 then [3,4,5,6] else [2,3,4,5]
structure Sr (w:World) (v:Value) (l:List Nat):Prop where
 at_:∃ g o c,v = .slice (some ⟨g,o,none⟩) l.length c/\l.length<=1000/\∀ (i:Nat) (x:Nat),l[i]? = some x->w.cell? ⟨g,o+i,none⟩=some (.int .u8 x)
theorem Hm (kd:Nat) (w:World):Calls Tryz.prog 146 #[.int .u8 kd] w fun e w'=>∃ v,e = .returned v/\Sr w' v (fE kd)/\Below w.heap.size w w':=by
 by_cases h2:kd=2
 ·subst h2
  rw [show fE 2=[1,2,3] from rfl];have hb:Below w.heap.size w (w.alloc (.cells #[.int .u8 1,.int .u8 2,.int .u8 3] 5)):=(Below.refl _ _).alloc (Nat.le_refl _) _;have HB:=hid hb;have HS:=hid (Sits.new w 5 #[.int .u8 1,.int .u8 2,.int .u8 3]);clear hb;go_enter Tryz.func146,Tryz.ntmps146;go_wp2_with fail
  go_ret;refine ⟨_,rfl,⟨_,0,3,rfl,by decide,fun i x hx=>?_⟩,HB.out⟩;rw [Nat.zero_add];refine (HS.out.cell i).trans ?_;rcases i with _ | _ | _ | i
  all_goals first | (have e:=Option.some.inj hx;subst e;rfl) | (simp at hx)
 by_cases h3:kd=3
 ·subst h3
  rw [show fE 3=[1,2,4] from rfl];clear h2;have hb:Below w.heap.size w (w.alloc (.cells #[.int .u8 1,.int .u8 2,.int .u8 4] 5)):=(Below.refl _ _).alloc (Nat.le_refl _) _;have HB:=hid hb;have HS:=hid (Sits.new w 5 #[.int .u8 1,.int .u8 2,.int .u8 4]);clear hb;go_enter Tryz.func146,Tryz.ntmps146;go_wp2_with fail
  go_ret;refine ⟨_,rfl,⟨_,0,3,rfl,by decide,fun i x hx=>?_⟩,HB.out⟩;rw [Nat.zero_add];refine (HS.out.cell i).trans ?_;rcases i with _ | _ | _ | i
  all_goals first | (have e:=Option.some.inj hx;subst e;rfl) | (simp at hx)
 by_cases h7:kd=7
 ·subst h7
  rw [show fE 7=[3,4,5,6] from rfl];clear h2 h3;have hb:Below w.heap.size w (w.alloc (.cells #[.int .u8 3,.int .u8 4,.int .u8 5,.int .u8 6] 5)):=(Below.refl _ _).alloc (Nat.le_refl _) _;have HB:=hid hb;have HS:=hid (Sits.new w 5 #[.int .u8 3,.int .u8 4,.int .u8 5,.int .u8 6]);clear hb;go_enter Tryz.func146,Tryz.ntmps146;go_wp2_with fail
  go_ret;refine ⟨_,rfl,⟨_,0,4,rfl,by decide,fun i x hx=>?_⟩,HB.out⟩;rw [Nat.zero_add];refine (HS.out.cell i).trans ?_;rcases i with _ | _ | _ | _ | i
  all_goals first | (have e:=Option.some.inj hx;subst e;rfl) | (simp at hx)
 ·have hl:fE kd=[2,3,4,5]:=by unfold fE;rw [if_neg h2,if_neg h3,if_neg h7]
  rw [hl];have hb:Below w.heap.size w (w.alloc (.cells #[.int .u8 2,.int .u8 3,.int .u8 4,.int .u8 5] 5)):=(Below.refl _ _).alloc (Nat.le_refl _) _;have HB:=hid hb;have HS:=hid (Sits.new w 5 #[.int .u8 2,.int .u8 3,.int .u8 4,.int .u8 5]);clear hb;have n2:¬ ((kd:Int)=2):=by omega
  have n3:¬ ((kd:Int)=3):=by omega
  have n7:¬ ((kd:Int)=7):=by omega
  clear h2 h3 h7 hl;go_enter Tryz.func146,Tryz.ntmps146;go_wp2_with fail
  go_ret;refine ⟨_,rfl,⟨_,0,4,rfl,by decide,fun i x hx=>?_⟩,HB.out⟩;rw [Nat.zero_add];refine (HS.out.cell i).trans ?_;rcases i with _ | _ | _ | _ | i
  all_goals first | (have e:=Option.some.inj hx;subst e;rfl) | (simp at hx)
def sG:Array Value:=#[.string ⟨#[]⟩,.string ⟨#[61,61]⟩,.string ⟨#[33,61]⟩,.string ⟨#[60]⟩,.string ⟨#[60,61]⟩,.string ⟨#[43]⟩,.string ⟨#[45]⟩,.string ⟨#[124]⟩,.string ⟨#[94]⟩,.string ⟨#[42]⟩,.string ⟨#[47]⟩,.string ⟨#[37]⟩,.string ⟨#[38]⟩]
theorem KN {i:Nat} (h:i<13):sG[i]? = some (.string (str (sign i))):=by
 obtain rfl | rfl | rfl | rfl | rfl | rfl | rfl | rfl | rfl | rfl | rfl | rfl | rfl:i=0 \/ i=1 \/ i=2 \/ i=3 \/ i=4 \/ i=5 \/ i=6 \/ i=7 \/ i=8 \/ i=9 \/ i=10 \/ i=11 \/ i=12:=by omega
 all_goals rfl
theorem jB {i:Nat} (h1:1<=i) (h2:i<=12):sides i=2:=by
 obtain rfl | rfl | rfl | rfl | rfl | rfl | rfl | rfl | rfl | rfl | rfl | rfl:i=1 \/ i=2 \/ i=3 \/ i=4 \/ i=5 \/ i=6 \/ i=7 \/ i=8 \/ i=9 \/ i=10 \/ i=11 \/ i=12:=by omega
 all_goals rfl
theorem NH {s:List UInt8} {i:Nat} (h1:1<=i) (h2:i<=12) (h:sign i=s) (hb:∀ q,1<=q->q<i->sign q≠s):mE 2 s=i :=
 Fe h1 (by omega) (by unfold sO;rw [jB h1 h2,h];simp) fun q a b=>by unfold sO;simp [hb q a b]
theorem QO {s:List UInt8} (hb:∀ q,1<=q->q<13->sign q≠s):mE 2 s=0:=wR fun q a b=>by
 unfold sO;by_cases h:q<13
 ·simp [hb q a h]
 ·obtain rfl | rfl:q=13 \/ q=14:=by omega
  all_goals simp [sides]
theorem AY (s:List UInt8) (w:World):Calls Tryz.prog 89 #[.string (str s)] w fun e w'=>Made (.returned (.tuple #[.int .i64 (ai (mE 2 s):Nat),.int .u8 (mE 2 s:Nat)])) w e w':=by
 have hb:Below w.heap.size w (w.alloc (.cells sG 9)):=(Below.refl _ _).alloc (Nat.le_refl _) _;have HB:=hid hb;have HS:=hid (Sits.new w 9 sG);have yt:=hid (fun x=>str_eq x s);generalize hss:str s=s';have ZM:=hid (show ∀ x,((str x).toList == s'.toList)=decide (x=s) from hss ▸ yt.out);clear hb hss yt;generalize hso:ai (mE 2 s)=so;generalize hop:mE 2 s=op at hso ⊢;have Yp:=hid hso;have HOP:=hid hop;clear hso hop;go_enter Tryz.func89,Tryz.ntmps89;go_wp2_with fail
 change Code.wp _ _ _ _ (w.alloc (.cells sG 9));generalize w.alloc (.cells sG 9)=w1 at HB HS ⊢;generalize w.heap.size=gb at HS ⊢
 go_loopg [5] 12 (fun gg v5 wx=>∃ i,1<=i/\i<=13/\gg=13 - i/\v5 = .int .i64 (i:Nat)/\Hid (Sits wx gb 9 sG)/\Hid (Below w.heap.size w wx)/\Hid (∀ q,1<=q->q<i->sign q≠s))
 case atStart=>exact ⟨1,by omega,by omega,by omega,rfl,HS,HB,hid fun q a b=>by omega⟩
 case round =>
  obtain ⟨i,h1,h2,rfl,rfl,HS2,HB2,HN⟩:=hrel;have lb:=HS2.out.lt;by_cases hlt:i<13
  ·have cy:=(HS2.out.cell i).trans (KN hlt)
   have m1:(i:Int)<13:=by omega
   have m2:(0:Int)<=(i:Int):=by omega
   have hdy:=ZM.out (sign i);have HI:=hid (show 1<=i/\i<13 from ⟨h1,hlt⟩);by_cases hc:sign i=s
   ·rw [decide_eq_true hc] at hdy
    have HO:=hid (NH h1 (by omega) hc HN.out);clear hc h1 h2 hlt m1 m2;obtain rfl | rfl | rfl | rfl | rfl | rfl | rfl | rfl | rfl | rfl | rfl | rfl:i=1 \/ i=2 \/ i=3 \/ i=4 \/ i=5 \/ i=6 \/ i=7 \/ i=8 \/ i=9 \/ i=10 \/ i=11 \/ i=12:=by have:=HI.out;omega
    all_goals
     go_wp2_with fail
     have eo:=HOP.out.symm.trans HO.out;subst eo;have es:=Yp.out;subst es;exact bodyPost_ret (v:=.tuple #[.int .i64 (ai _:Nat),.int .u8 ((_:Nat))]) (by simp [results,Tryz.results89,go_sem,ai]) rfl ⟨rfl,HB2.out⟩
   ·rw [decide_eq_false hc] at hdy
    have HC:=hid hc;generalize str (sign i)=ys at cy hdy;clear hc h1 h2 hlt;go_wp2_with fail
    go_roundg (13 - (i+1))
    case measure=>have:=HI.out;omega
    case rel=>exact ⟨i+1,by omega,by have:=HI.out;omega,rfl,by go_num,HS2,HB2,hid fun q a b=>by
     by_cases e:q<i
     ·exact HN.out q a e
     ·obtain rfl:q=i:=by omega
      exact HC.out⟩
  ·obtain rfl:i=13:=by omega
   have HO:=hid (QO HN.out);clear h1 h2 hlt;go_wp2_with fail
   have eo:=HOP.out.symm.trans HO.out;subst eo;have es:=Yp.out;subst es;exact bodyPost_ret (v:=.tuple #[.int .i64 (ai _:Nat),.int .u8 ((_:Nat))]) (by simp [results,Tryz.results89,go_sem,ai]) rfl ⟨rfl,HB2.out⟩
end Go.Proofs.YtaanhmndeobgbaaGreatDoor.fT
