/- Part 27 of the proof: what is used of the texts PtlK. -/
import Derived.Test.YtaanhmndeobgbaaGreatDoorGC5
set_option maxRecDepth 100000
set_option maxHeartbeats 2000000
namespace Go.Proofs.YtaanhmndeobgbaaGreatDoor.fT
open Go.RowKit Mem Go.Proofs.YtaanhmndeobgbaaGreatDoor.Expr Prog Go.Lib ae
open Go.Proofs.YtaanhmndeobgbaaGreatDoor.Row (Lay cellsOf bO dQ mU eX cz eY dM ax aO)
open Lex (Tok cO jA)
theorem NS {ts:List Lex.Tok} (p:Option Addr) (c k j e b:Nat) (ask:Bool) (w:World) (he:e≠0) (hj:j<ts.length) (hk:k<ts.length) :
  Calls Tryz.prog 125 #[.agg #[.slice p ts.length c,.int .i64 (k:Nat),.int .i64 (j:Nat),.int .i64 (e:Nat)],.bool ask] w (bY (.slice p ts.length c) ts.length b (.bad j e) w):=by
 obtain ⟨HL,HA,HZ⟩:=iD w p ts.length c k j e;have HR:Hid (aP (.slice p ts.length c) ts.length (.bad j e:Out Ex) (.agg #[.slice p ts.length c,.int .i64 (k:Nat),.int .i64 (j:Nat),.int .i64 (e:Nat)])):=hid ⟨k,rfl,he,hj,hk⟩;have b1:((e:Int) != 0)=true:=by simp;omega
 clear he hj hk;go_enter Tryz.func125,Tryz.ntmps125;go_upto_region 1 with (fail)
 change Code.wp _ _ _ _ (bM w p ts.length c k j e);generalize bM w p ts.length c k j e=w1 at HL HA HZ ⊢;generalize hgb:w.heap.size=gb at HA HZ ⊢;have di:=hid hgb;clear hgb;have a0:=ag HA.out;have z0:=ag HZ.out;have kX:=aL HZ.out;go_wp2_with fail
 go_region
 go_wp2_with fail
 refine oQ (oU.drew HZ.out HL.out (by have:=di.out;omega) (.slice p ts.length c) (k) (j) (e)) ?_;intro W9 F;have s0:=ag F.out.s;exact bodyPost_ret (v:=.tuple #[.slice none 0 0,.agg #[.slice p ts.length c,.int .i64 (k:Nat),.int .i64 (j:Nat),.int .i64 (e:Nat)]]) (by simp [results,Tryz.results125,go_sem,s0]) rfl ⟨_,[],_,rfl,HR.out,dF.nil _ _,(fun _ _ h=>by cases h),Nat.zero_le _,F.out.l⟩
theorem gU {w:World} {g ob c:Nat} {ts:List Lex.Tok} (hP:dK w (.slice (some ⟨g,ob,none⟩) ts.length c) ts) {k:Nat} (hk:k<ts.length) :
  w.cell? ⟨g,ob+k * 5,none⟩=some (.int .u8 (au ts k))/\w.cell? ⟨g,ob+k * 5+1,none⟩=some (.string (str (aj ts k)))/\w.cell? ⟨g,ob+k * 5+2,none⟩=some (.int .u64 (aT ts k))/\w.cell? ⟨g,ob+k * 5+3,none⟩=some (.int .i64 (tk ts k).line)/\w.cell? ⟨g,ob+k * 5+4,none⟩=some (.int .i64 (tk ts k).xy)/\g<w.heap.size:=by
 obtain ⟨g',o',c',e,_,hc⟩:=hP.at_;injection e with e1 _ _;injection e1 with e1;injection e1 with e1 e2;subst e1 e2;have ht:ts[k]? = some (tk ts k):=by unfold tk;rw [List.getD_eq_getElem?_getD,List.getElem?_eq_getElem hk];rfl
 have c0:=hc k 0 _ ht (by omega);exact ⟨c0,hc k 1 _ ht (by omega),hc k 2 _ ht (by omega),hc k 3 _ ht (by omega),hc k 4 _ ht (by omega),World.block_lt_of_cell? _ _ c0⟩
theorem Dx {ts:List Lex.Tok} (hG:gM ts) (gp op c k b:Nat) (w:World) (hP:dK w (.slice (some ⟨gp,op,none⟩) ts.length c) ts) (hk:k<ts.length) (hb1:1<=b) (h1:au ts k=1) (ask:Bool) (h2:ask=false \/ ask=true/\au ts (k+1)≠3 \/ ask=true/\au ts (k+1)=3/\aj ts (k+1) ≠ [58]) :
  Calls Tryz.prog 125 #[.agg #[.slice (some ⟨gp,op,none⟩) ts.length c,.int .i64 (k:Nat),.int .i64 (0:Nat),.int .i64 (0:Nat)],.bool ask] w (bY (.slice (some ⟨gp,op,none⟩) ts.length c) ts.length b (.ok (.num (aT ts k)) (k+1)) w):=by
 obtain ⟨c0,c1,c2,c3,c4,lp⟩:=gU hP hk;have hn:ts.length<=5000:=by have:=hG.few;omega
 have hkn:k+1<ts.length:=hG.good.more k hk (by show au ts k≠0;omega);obtain ⟨d0,d1,_⟩:=gU hP hkn;have m3:(k:Int)+1<(ts.length:Int):=by omega
 have m4:(0:Int)<=(k:Int)+1:=by omega
 obtain ⟨HL,HA,HZ⟩:=iD w (some ⟨gp,op,none⟩) ts.length c k 0 0;have m1:(k:Int)<(ts.length:Int):=by omega
 have m0:(0:Int)<=(k:Int):=by omega
 have HK:=hid hk;have HB1:=hid hb1;have HP:=hid hP;rw [h1] at c0;have h3:ask=false \/ ask=true/\((au ts (k+1):Int) == 3)=false \/ ask=true/\au ts (k+1)=3/\((str (aj ts (k+1))).toList == ([58]:List UInt8))=false :=
  h2.imp id (Or.imp (fun h=>⟨h.1,by have:=h.2;simp;omega⟩) fun h=>⟨h.1,h.2.1,by rw [<- show (str [58]).toList=[58] by simp [str],str_eq];exact decide_eq_false h.2.2⟩)
 generalize au ts (k+1)=kd2 at d0 h3;generalize str (aj ts (k+1))=S2 at d1 h3;have NT:=hid hkn;generalize str (aj ts k)=S at c1;generalize aT ts k=N at c2 ⊢;generalize (tk ts k).line=ln at c3;generalize (tk ts k).xy=cl at c4
 replace c0:=(HL.out.cell (p:=⟨gp,_,none⟩) lp).trans c0
 replace c1:=(HL.out.cell (p:=⟨gp,_,none⟩) lp).trans c1
 replace c2:=(HL.out.cell (p:=⟨gp,_,none⟩) lp).trans c2
 replace c3:=(HL.out.cell (p:=⟨gp,_,none⟩) lp).trans c3
 replace c4:=(HL.out.cell (p:=⟨gp,_,none⟩) lp).trans c4
 replace d0:=(HL.out.cell (p:=⟨gp,_,none⟩) lp).trans d0
 replace d1:=(HL.out.cell (p:=⟨gp,_,none⟩) lp).trans d1
 replace lp:=Nat.lt_of_lt_of_le lp HL.out.size
 clear hP hk hb1 h1 hkn h2;rcases h3 with rfl | ⟨rfl,b2⟩ | ⟨rfl,rfl,b2⟩
 all_goals
  go_enter Tryz.func125,Tryz.ntmps125;go_upto_region 1 with (fail)
  change Code.wp _ _ _ _ (bM w (some ⟨gp,op,none⟩) ts.length c k 0 0);generalize bM w (some ⟨gp,op,none⟩) ts.length c k 0 0=w1 at HL HA HZ lp c0 c1 c2 c3 c4 d0 d1 ⊢;generalize hgb:w.heap.size=gb at HA HZ ⊢;have di:=hid hgb;clear hgb;have a0:=ag HA.out;have z0:=ag HZ.out;have eZ:=aL HA.out;have kX:=aL HZ.out;go_wp2_with fail
  refine hW (R:=fun V=>Hid (Sits V gb 57 #[.slice (some ⟨gp,op,none⟩) ts.length c,.int .i64 ((k:Int)+1),.int .i64 (0:Nat),.int .i64 (0:Nat)])/\Hid (Sits V (gb+1) 57 #[.slice none 0 0,.int .i64 0,.int .i64 0,.int .i64 0])/\Hid (Sits V w1.heap.size 66 #[.int .u8 1,.string S,.int .u64 (N:Nat),.int .i64 (ln:Nat),.int .i64 (cl:Nat)])/\Hid (Below w.heap.size w V)) ⟨(HA.out.put 1 _).alloc _,(HZ.out.far (by simp) _).alloc _,Sits.made (by simp) _ _,(HL.out.setCell (by have:=di.out;simp;omega) _).alloc (by have:=HL.out.size;simp;omega) _⟩ ?_;rintro w2 ⟨HA2,HZ2,qz,HL2⟩;have iE:Hid (gb+1<w1.heap.size):=hid HZ.out.lt;generalize w1.heap.size=g6 at qz iE ⊢;clear a0 eZ z0 kX;have a0:=ag HA2.out;have z0:=ag HZ2.out;have kX:=aL HZ2.out;have n2:=qz.out.cell 2;have nl:=qz.out.lt;go_region
  go_wp2_with fail
  have hl0:=aG HL2.out (g:=(gb+1)) (by have:=di.out;omega) (.slice (some ⟨gp,op,none⟩) ts.length c) (.int .i64 ((k:Int)+1)) (.int .i64 (0)) (.int .i64 (0));refine hB (R:=fun V=>Sits V (gb+1) 57 #[.slice (some ⟨gp,op,none⟩) ts.length c,.int .i64 ((k:Int)+1),.int .i64 (0),.int .i64 (0)]/\Sits V w2.heap.size 166 #[.int .u8 0,.int .u8 0,.int .u64 (N:Nat),.int .u8 0,.int .u8 0,.int .u8 0]/\Below w.heap.size w V) ⟨((aA HZ2.out (.slice (some ⟨gp,op,none⟩) ts.length c) (.int .i64 ((k:Int)+1)) (.int .i64 (0)) (.int .i64 (0))).alloc _).drew,(Sits.made (by simp) _ _).drew,(hl0.alloc hl0.size _).drew⟩ ?_;rintro W9 ⟨hs,hi,hl⟩;obtain ⟨s0,s1,s2,s3,_⟩:=ag hs;have HF:=hid hl;have HI:=hid hi;have jK:=hid (show w.heap.size<=w2.heap.size from HL2.out.size);generalize w2.heap.size=g9 at HI jK ⊢;clear hs hl hl0 hi;exact bodyPost_ret (v:=.tuple #[.slice (some ⟨g9,0,none⟩) 1 1,.agg #[.slice (some ⟨gp,op,none⟩) ts.length c,.int .i64 ((k+1:Nat)),.int .i64 (0:Nat),.int .i64 (0:Nat)]]) (by simp [results,Tryz.results125,go_sem,s0,s1,s2,s3]) rfl ⟨_,[⟨0,0,N,0,0,0⟩],_,rfl,⟨rfl,NT.out⟩,dF.one HI.out jK.out,(fun _ _ h=>by injection h with h _;rw [<- h];rfl),HB1.out,HF.out⟩
theorem QU {ts:List Lex.Tok} (hG:gM ts) (gp op c k b:Nat) (w:World) (hP:dK w (.slice (some ⟨gp,op,none⟩) ts.length c) ts) (hk:k<ts.length) (hb1:1<=b) (h1:au ts k=1) (h2:aj ts (k+1)=[58]) (h4:3<aT ts k) :
  Calls Tryz.prog 125 #[.agg #[.slice (some ⟨gp,op,none⟩) ts.length c,.int .i64 (k:Nat),.int .i64 (0:Nat),.int .i64 (0:Nat)],.bool true] w (bY (.slice (some ⟨gp,op,none⟩) ts.length c) ts.length b (.bad k 7) w):=by
 obtain ⟨c0,c1,c2,c3,c4,lp⟩:=gU hP hk;have hn:ts.length<=5000:=by have:=hG.few;omega
 have hkn:k+1<ts.length:=hG.good.more k hk (by show au ts k≠0;omega);obtain ⟨d0,d1,_⟩:=gU hP hkn;have m3:(k:Int)+1<(ts.length:Int):=by omega
 have m4:(0:Int)<=(k:Int)+1:=by omega
 obtain ⟨HL,HA,HZ⟩:=iD w (some ⟨gp,op,none⟩) ts.length c k 0 0;have m1:(k:Int)<(ts.length:Int):=by omega
 have m0:(0:Int)<=(k:Int):=by omega
 have HK:=hid hk;have HB1:=hid hb1;have HP:=hid hP;have h3:au ts (k+1)=3:=gW hG ⟨58,[],rfl,by decide⟩ h2;rw [h1] at c0;rw [h3] at d0;have d1:w.cell? ⟨gp,op+(k+1) * 5+1,none⟩=some (.string ⟨#[58]⟩):=by rw [h2] at d1;exact d1
 have b4:(3:Int)<(aT ts k:Int):=by omega
 have tO:=hid (show ∀ W,Calls Tryz.prog 17 #[.agg #[.slice (some ⟨gp,op,none⟩) ts.length c,.int .i64 (k:Nat),.int .i64 0,.int .i64 0],.int .i64 (k:Nat),.int .i64 7] W (Made (.returned (.agg #[.slice (some ⟨gp,op,none⟩) ts.length c,.int .i64 (k:Nat),.int .i64 (k:Nat),.int .i64 7])) W) from fun W=>fZ (some ⟨gp,op,none⟩) ts.length c k 0 0 k 7 W);generalize str (aj ts k)=S at c1;generalize aT ts k=N at c2 b4 ⊢;generalize (tk ts k).line=ln at c3;generalize (tk ts k).xy=cl at c4
 replace c0:=(HL.out.cell (p:=⟨gp,_,none⟩) lp).trans c0
 replace c1:=(HL.out.cell (p:=⟨gp,_,none⟩) lp).trans c1
 replace c2:=(HL.out.cell (p:=⟨gp,_,none⟩) lp).trans c2
 replace c3:=(HL.out.cell (p:=⟨gp,_,none⟩) lp).trans c3
 replace c4:=(HL.out.cell (p:=⟨gp,_,none⟩) lp).trans c4
 replace d0:=(HL.out.cell (p:=⟨gp,_,none⟩) lp).trans d0
 replace d1:=(HL.out.cell (p:=⟨gp,_,none⟩) lp).trans d1
 replace lp:=Nat.lt_of_lt_of_le lp HL.out.size
 clear hP hk hb1 h1 hkn h2 h3 h4;go_enter Tryz.func125,Tryz.ntmps125;go_upto_region 1 with (fail)
 change Code.wp _ _ _ _ (bM w (some ⟨gp,op,none⟩) ts.length c k 0 0);generalize bM w (some ⟨gp,op,none⟩) ts.length c k 0 0=w1 at HL HA HZ lp c0 c1 c2 c3 c4 d0 d1 ⊢;generalize hgb:w.heap.size=gb at HA HZ ⊢;have di:=hid hgb;clear hgb;have a0:=ag HA.out;have z0:=ag HZ.out;have eZ:=aL HA.out;have kX:=aL HZ.out;go_wp2_with fail
 refine hC (R:=fun V=>Hid (Sits V gb 57 #[.slice (some ⟨gp,op,none⟩) ts.length c,.int .i64 ((k:Nat)),.int .i64 (0:Nat),.int .i64 (0:Nat)])/\Hid (Sits V (gb+1) 57 #[.slice none 0 0,.int .i64 0,.int .i64 0,.int .i64 0])/\Hid (Sits V w1.heap.size 66 #[.int .u8 1,.string S,.int .u64 (N:Nat),.int .i64 (ln:Nat),.int .i64 (cl:Nat)])/\Hid (Below w.heap.size w V)) ⟨HA.out.alloc _,HZ.out.alloc _,Sits.made rfl _ _,HL.out.alloc HL.out.size _⟩ ?_;rintro w2 ⟨HA2,HZ2,qz,HL2⟩;have iE:Hid (gb+1<w1.heap.size):=hid HZ.out.lt;generalize w1.heap.size=g6 at qz iE ⊢;clear a0 eZ z0 kX;refine (tO.out _).mono ?_;rintro x w3 ⟨rfl,hb⟩;have HZ2:=hid (HZ2.out.below hb HZ2.out.lt);have HL2:=hid (HL2.out.trans (hb.mono HL2.out.size));clear hb;have z0:=ag HZ2.out;have kX:=aL HZ2.out;go_wp2_with fail
 refine oQ (oU.put HZ2.out HL2.out (by have:=di.out;omega) (.slice (some ⟨gp,op,none⟩) ts.length c) (k) (k) (7)) ?_;intro W9 F;have s0:=ag F.out.s;exact bodyPost_ret (v:=.tuple #[.slice none 0 0,.agg #[.slice (some ⟨gp,op,none⟩) ts.length c,.int .i64 (k:Nat),.int .i64 (k:Nat),.int .i64 (7:Nat)]]) (by simp [results,Tryz.results125,go_sem,s0]) rfl ⟨_,[],_,rfl,⟨k,rfl,by decide,HK.out,HK.out⟩,dF.nil _ _,(fun _ _ h=>by cases h),Nat.zero_le _,F.out.l⟩
theorem Ug {ts:List Lex.Tok} (hG:gM ts) (gp op c k b:Nat) (w:World) (hP:dK w (.slice (some ⟨gp,op,none⟩) ts.length c) ts) (hk:k<ts.length) (hb1:1<=b) (h1:au ts k=1) (h2:aj ts (k+1)=[58]) (h4:aT ts k<4) :
  Calls Tryz.prog 125 #[.agg #[.slice (some ⟨gp,op,none⟩) ts.length c,.int .i64 (k:Nat),.int .i64 (0:Nat),.int .i64 (0:Nat)],.bool true] w (bY (.slice (some ⟨gp,op,none⟩) ts.length c) ts.length b ((gy ts (k+2)).map (.of (aT ts k))) w):=by
 obtain ⟨c0,c1,c2,c3,c4,lp⟩:=gU hP hk;have hn:ts.length<=5000:=by have:=hG.few;omega
 have hkn:k+1<ts.length:=hG.good.more k hk (by show au ts k≠0;omega);obtain ⟨d0,d1,_⟩:=gU hP hkn;have m3:(k:Int)+1<(ts.length:Int):=by omega
 have m4:(0:Int)<=(k:Int)+1:=by omega
 obtain ⟨HL,HA,HZ⟩:=iD w (some ⟨gp,op,none⟩) ts.length c k 0 0;have m1:(k:Int)<(ts.length:Int):=by omega
 have m0:(0:Int)<=(k:Int):=by omega
 have HK:=hid hk;have HB1:=hid hb1;have HP:=hid hP;have h3:au ts (k+1)=3:=gW hG ⟨58,[],rfl,by decide⟩ h2;rw [h1] at c0;rw [h3] at d0;have d1:w.cell? ⟨gp,op+(k+1) * 5+1,none⟩=some (.string ⟨#[58]⟩):=by rw [h2] at d1;exact d1
 have b4:¬ (3:Int)<(aT ts k:Int):=by omega
 have w8:IntKind.u8.wrap (aT ts k:Int)=(aT ts k:Int):=IntWalk.u8_in _ (by omega);have hk2:k+2<ts.length:=hG.good.more (k+1) hkn (by show au ts (k+1)≠0;omega);have Jh:=hid (show ∀ W,Below w.heap.size w W->Calls Tryz.prog 87 #[.agg #[.slice (some ⟨gp,op,none⟩) ts.length c,.int .i64 ((k:Int)+2),.int .i64 (0:Nat),.int .i64 (0:Nat)]] W (qc (.slice (some ⟨gp,op,none⟩) ts.length c) ts.length (gy ts (k+2)) W) from fun W hl=>zM (o:=Out.ok () (k+2)) hG W (hP.below hl) ⟨rfl,hk2⟩);generalize str (aj ts k)=S at c1;generalize aT ts k=N at c2 b4 w8 ⊢;generalize (tk ts k).line=ln at c3;generalize (tk ts k).xy=cl at c4
 replace c0:=(HL.out.cell (p:=⟨gp,_,none⟩) lp).trans c0
 replace c1:=(HL.out.cell (p:=⟨gp,_,none⟩) lp).trans c1
 replace c2:=(HL.out.cell (p:=⟨gp,_,none⟩) lp).trans c2
 replace c3:=(HL.out.cell (p:=⟨gp,_,none⟩) lp).trans c3
 replace c4:=(HL.out.cell (p:=⟨gp,_,none⟩) lp).trans c4
 replace d0:=(HL.out.cell (p:=⟨gp,_,none⟩) lp).trans d0
 replace d1:=(HL.out.cell (p:=⟨gp,_,none⟩) lp).trans d1
 replace lp:=Nat.lt_of_lt_of_le lp HL.out.size
 clear hP hk hb1 h1 hkn h2 h3 h4 hk2;go_enter Tryz.func125,Tryz.ntmps125;go_upto_region 1 with (fail)
 change Code.wp _ _ _ _ (bM w (some ⟨gp,op,none⟩) ts.length c k 0 0);generalize bM w (some ⟨gp,op,none⟩) ts.length c k 0 0=w1 at HL HA HZ lp c0 c1 c2 c3 c4 d0 d1 ⊢;generalize hgb:w.heap.size=gb at HA HZ ⊢;have di:=hid hgb;clear hgb;have a0:=ag HA.out;have z0:=ag HZ.out;have eZ:=aL HA.out;have kX:=aL HZ.out;go_wp2_with fail
 refine hC (R:=fun V=>Hid (Sits V gb 57 #[.slice (some ⟨gp,op,none⟩) ts.length c,.int .i64 ((k:Int)+2),.int .i64 (0:Nat),.int .i64 (0:Nat)])/\Hid (Sits V (gb+1) 57 #[.slice none 0 0,.int .i64 0,.int .i64 0,.int .i64 0])/\Hid (Sits V w1.heap.size 66 #[.int .u8 1,.string S,.int .u64 (N:Nat),.int .i64 (ln:Nat),.int .i64 (cl:Nat)])/\Hid (Below w.heap.size w V)) ⟨(HA.out.put 1 _).alloc _,(HZ.out.far (by simp) _).alloc _,Sits.made (by simp) _ _,(HL.out.setCell (by have:=di.out;simp;omega) _).alloc (by have:=HL.out.size;simp;omega) _⟩ ?_;rintro w2 ⟨HA2,HZ2,qz,HL2⟩;have iE:Hid (gb+1<w1.heap.size):=hid HZ.out.lt;generalize w1.heap.size=g6 at qz iE ⊢;clear a0 eZ z0 kX;refine (Jh.out _ HL2.out).mono ?_;rintro x w3 ⟨u2,x2,rfl,h1',h2',hb⟩;obtain ⟨k2,j2,e2,rfl⟩:=h1'.cells;have dO:=hid h1';have Gg:=hid h2';have HZ2:=hid (HZ2.out.below hb HZ2.out.lt);have qz:=hid (qz.out.below hb qz.out.lt);have HL2:=hid (HL2.out.trans (hb.mono HL2.out.size));clear h1' h2' hb;go_wp2_with fail
 have hlow:=aO w3 (.cells #[.slice (some ⟨gp,op,none⟩) ts.length c,.int .i64 (k2:Nat),.int .i64 (j2:Nat),.int .i64 (e2:Nat)] 57);have gD:=hid (Sits.new w3 57 #[.slice (some ⟨gp,op,none⟩) ts.length c,.int .i64 (k2:Nat),.int .i64 (j2:Nat),.int .i64 (e2:Nat)]);have HZ2:=hid (HZ2.out.below hlow HZ2.out.lt);have qz:=hid (qz.out.below hlow qz.out.lt);have HL2:=hid (HL2.out.trans (hlow.mono HL2.out.size));change Code.wp _ _ _ _ (w3.alloc (.cells #[.slice (some ⟨gp,op,none⟩) ts.length c,.int .i64 (k2:Nat),.int .i64 (j2:Nat),.int .i64 (e2:Nat)] 57));generalize w3.alloc (.cells #[.slice (some ⟨gp,op,none⟩) ts.length c,.int .i64 (k2:Nat),.int .i64 (j2:Nat),.int .i64 (e2:Nat)] 57)=w4 at gD HZ2 qz HL2 ⊢;generalize w3.heap.size=g10 at gD ⊢;clear hlow;have z0:=ag HZ2.out;have kX:=aL HZ2.out;obtain ⟨h0,h1,h2,h3,hl⟩:=ag gD.out;have n2:=qz.out.cell 2;have nl:=qz.out.lt;go_region
 go_wp2_with fail
 have hl0:=aG HL2.out (g:=(gb+1)) (by have:=di.out;omega) (.slice (some ⟨gp,op,none⟩) ts.length c) (.int .i64 ((k2:Nat))) (.int .i64 ((j2:Nat))) (.int .i64 ((e2:Nat)));refine hB (R:=fun V=>Sits V (gb+1) 57 #[.slice (some ⟨gp,op,none⟩) ts.length c,.int .i64 ((k2:Nat)),.int .i64 ((j2:Nat)),.int .i64 ((e2:Nat))]/\Sits V w4.heap.size 166 #[.int .u8 2,.int .u8 0,.int .u64 0,.int .u8 (N:Nat),.int .u8 (x2:Nat),.int .u8 0]/\Below w.heap.size w V) ⟨((aA HZ2.out (.slice (some ⟨gp,op,none⟩) ts.length c) (.int .i64 ((k2:Nat))) (.int .i64 ((j2:Nat))) (.int .i64 ((e2:Nat)))).alloc _).drew,(Sits.made (by simp) _ _).drew,(hl0.alloc hl0.size _).drew⟩ ?_;rintro W9 ⟨hs,hi,hl⟩;obtain ⟨s0,s1,s2,s3,_⟩:=ag hs;have HF:=hid hl;have HI:=hid hi;have jK:=hid (show w.heap.size<=w4.heap.size from HL2.out.size);generalize w4.heap.size=g9 at HI jK ⊢;clear hs hl hl0 hi;exact bodyPost_ret (v:=.tuple #[.slice (some ⟨g9,0,none⟩) 1 1,.agg #[.slice (some ⟨gp,op,none⟩) ts.length c,.int .i64 (k2:Nat),.int .i64 (j2:Nat),.int .i64 (e2:Nat)]]) (by simp [results,Tryz.results125,go_sem,s0,s1,s2,s3]) rfl ⟨_,[⟨2,0,0,N,x2,0⟩],_,rfl,dO.out.yf,dF.one HI.out jK.out,(fun a q h=>by obtain ⟨y,hy,rfl⟩:=map_ok h;rw [Gg.out y q hy];rfl),HB1.out,HF.out⟩
theorem QV {ts:List Lex.Tok} (hG:gM ts) (gp op c k b:Nat) (w:World) (hP:dK w (.slice (some ⟨gp,op,none⟩) ts.length c) ts) (hk:k<ts.length) (hb1:1<=b) (h1:au ts k≠1) :
  Calls Tryz.prog 125 #[.agg #[.slice (some ⟨gp,op,none⟩) ts.length c,.int .i64 (k:Nat),.int .i64 (0:Nat),.int .i64 (0:Nat)],.bool true] w (bY (.slice (some ⟨gp,op,none⟩) ts.length c) ts.length b ((jo ts k).map .loc) w):=by
 obtain ⟨c0,c1,c2,c3,c4,lp⟩:=gU hP hk;have hn:ts.length<=5000:=by have:=hG.few;omega
 obtain ⟨HL,HA,HZ⟩:=iD w (some ⟨gp,op,none⟩) ts.length c k 0 0;have m1:(k:Int)<(ts.length:Int):=by omega
 have m0:(0:Int)<=(k:Int):=by omega
 have HK:=hid hk;have HB1:=hid hb1;have HP:=hid hP;have b1:((au ts k:Int) == 1)=false:=by simp;omega
 have Jh:=hid (show ∀ W,Below w.heap.size w W->Calls Tryz.prog 15 #[.agg #[.slice (some ⟨gp,op,none⟩) ts.length c,.int .i64 (k:Nat),.int .i64 (0:Nat),.int .i64 (0:Nat)]] W (qc (.slice (some ⟨gp,op,none⟩) ts.length c) ts.length (jo ts k) W) from fun W hl=>rJ (o:=Out.ok () k) hG W (hP.below hl) ⟨rfl,hk⟩);generalize au ts k=ZR at c0 b1;generalize str (aj ts k)=S at c1;generalize aT ts k=N at c2;generalize (tk ts k).line=ln at c3;generalize (tk ts k).xy=cl at c4
 replace c0:=(HL.out.cell (p:=⟨gp,_,none⟩) lp).trans c0
 replace c1:=(HL.out.cell (p:=⟨gp,_,none⟩) lp).trans c1
 replace c2:=(HL.out.cell (p:=⟨gp,_,none⟩) lp).trans c2
 replace c3:=(HL.out.cell (p:=⟨gp,_,none⟩) lp).trans c3
 replace c4:=(HL.out.cell (p:=⟨gp,_,none⟩) lp).trans c4
 replace lp:=Nat.lt_of_lt_of_le lp HL.out.size
 clear hP hk hb1 h1;go_enter Tryz.func125,Tryz.ntmps125;go_upto_region 1 with (fail)
 change Code.wp _ _ _ _ (bM w (some ⟨gp,op,none⟩) ts.length c k 0 0);generalize bM w (some ⟨gp,op,none⟩) ts.length c k 0 0=w1 at HL HA HZ lp c0 c1 c2 c3 c4 ⊢;generalize hgb:w.heap.size=gb at HA HZ ⊢;have di:=hid hgb;clear hgb;have a0:=ag HA.out;have z0:=ag HZ.out;have eZ:=aL HA.out;have kX:=aL HZ.out;go_wp2_with fail
 refine hC (R:=fun V=>Hid (Sits V gb 57 #[.slice (some ⟨gp,op,none⟩) ts.length c,.int .i64 ((k:Nat)),.int .i64 (0:Nat),.int .i64 (0:Nat)])/\Hid (Sits V (gb+1) 57 #[.slice none 0 0,.int .i64 0,.int .i64 0,.int .i64 0])/\Hid (Sits V w1.heap.size 66 #[.int .u8 (ZR:Nat),.string S,.int .u64 (N:Nat),.int .i64 (ln:Nat),.int .i64 (cl:Nat)])/\Hid (Below w.heap.size w V)) ⟨HA.out.alloc _,HZ.out.alloc _,Sits.made rfl _ _,HL.out.alloc HL.out.size _⟩ ?_;rintro w2 ⟨HA2,HZ2,qz,HL2⟩;have iE:Hid (gb+1<w1.heap.size):=hid HZ.out.lt;generalize w1.heap.size=g6 at qz iE ⊢;clear a0 eZ z0 kX;refine (Jh.out _ HL2.out).mono ?_;rintro x w3 ⟨u2,x2,rfl,h1',h2',hb⟩;obtain ⟨k2,j2,e2,rfl⟩:=h1'.cells;have dO:=hid h1';have Gg:=hid h2';have HZ2:=hid (HZ2.out.below hb HZ2.out.lt);have qz:=hid (qz.out.below hb qz.out.lt);have HL2:=hid (HL2.out.trans (hb.mono HL2.out.size));clear h1' h2' hb;go_wp2_with fail
 have hlow:=aO w3 (.cells #[.slice (some ⟨gp,op,none⟩) ts.length c,.int .i64 (k2:Nat),.int .i64 (j2:Nat),.int .i64 (e2:Nat)] 57);have gD:=hid (Sits.new w3 57 #[.slice (some ⟨gp,op,none⟩) ts.length c,.int .i64 (k2:Nat),.int .i64 (j2:Nat),.int .i64 (e2:Nat)]);have HZ2:=hid (HZ2.out.below hlow HZ2.out.lt);have qz:=hid (qz.out.below hlow qz.out.lt);have HL2:=hid (HL2.out.trans (hlow.mono HL2.out.size));change Code.wp _ _ _ _ (w3.alloc (.cells #[.slice (some ⟨gp,op,none⟩) ts.length c,.int .i64 (k2:Nat),.int .i64 (j2:Nat),.int .i64 (e2:Nat)] 57));generalize w3.alloc (.cells #[.slice (some ⟨gp,op,none⟩) ts.length c,.int .i64 (k2:Nat),.int .i64 (j2:Nat),.int .i64 (e2:Nat)] 57)=w4 at gD HZ2 qz HL2 ⊢;generalize w3.heap.size=g10 at gD ⊢;clear hlow;have z0:=ag HZ2.out;have kX:=aL HZ2.out;obtain ⟨h0,h1,h2,h3,hl⟩:=ag gD.out;have n2:=qz.out.cell 2;have nl:=qz.out.lt;go_region
 go_wp2_with fail
 have hl0:=aG HL2.out (g:=(gb+1)) (by have:=di.out;omega) (.slice (some ⟨gp,op,none⟩) ts.length c) (.int .i64 ((k2:Nat))) (.int .i64 ((j2:Nat))) (.int .i64 ((e2:Nat)));refine hB (R:=fun V=>Sits V (gb+1) 57 #[.slice (some ⟨gp,op,none⟩) ts.length c,.int .i64 ((k2:Nat)),.int .i64 ((j2:Nat)),.int .i64 ((e2:Nat))]/\Sits V w4.heap.size 166 #[.int .u8 3,.int .u8 0,.int .u64 0,.int .u8 0,.int .u8 0,.int .u8 (x2:Nat)]/\Below w.heap.size w V) ⟨((aA HZ2.out (.slice (some ⟨gp,op,none⟩) ts.length c) (.int .i64 ((k2:Nat))) (.int .i64 ((j2:Nat))) (.int .i64 ((e2:Nat)))).alloc _).drew,(Sits.made (by simp) _ _).drew,(hl0.alloc hl0.size _).drew⟩ ?_;rintro W9 ⟨hs,hi,hl⟩;obtain ⟨s0,s1,s2,s3,_⟩:=ag hs;have HF:=hid hl;have HI:=hid hi;have jK:=hid (show w.heap.size<=w4.heap.size from HL2.out.size);generalize w4.heap.size=g9 at HI jK ⊢;clear hs hl hl0 hi;exact bodyPost_ret (v:=.tuple #[.slice (some ⟨g9,0,none⟩) 1 1,.agg #[.slice (some ⟨gp,op,none⟩) ts.length c,.int .i64 (k2:Nat),.int .i64 (j2:Nat),.int .i64 (e2:Nat)]]) (by simp [results,Tryz.results125,go_sem,s0,s1,s2,s3]) rfl ⟨_,[⟨3,0,0,0,0,x2⟩],_,rfl,dO.out.yf,dF.one HI.out jK.out,(fun a q h=>by obtain ⟨y,hy,rfl⟩:=map_ok h;rw [Gg.out y q hy];rfl),HB1.out,HF.out⟩
theorem QW {ts:List Lex.Tok} (hG:gM ts) (gp op c k b:Nat) (w:World) (hP:dK w (.slice (some ⟨gp,op,none⟩) ts.length c) ts) (hk:k<ts.length) (hb1:1<=b) (h1:au ts k≠1) :
  Calls Tryz.prog 125 #[.agg #[.slice (some ⟨gp,op,none⟩) ts.length c,.int .i64 (k:Nat),.int .i64 (0:Nat),.int .i64 (0:Nat)],.bool false] w (bY (.slice (some ⟨gp,op,none⟩) ts.length c) ts.length b ((gy ts k).map .reg) w):=by
 obtain ⟨c0,c1,c2,c3,c4,lp⟩:=gU hP hk;have hn:ts.length<=5000:=by have:=hG.few;omega
 obtain ⟨HL,HA,HZ⟩:=iD w (some ⟨gp,op,none⟩) ts.length c k 0 0;have m1:(k:Int)<(ts.length:Int):=by omega
 have m0:(0:Int)<=(k:Int):=by omega
 have HK:=hid hk;have HB1:=hid hb1;have HP:=hid hP;have b1:((au ts k:Int) == 1)=false:=by simp;omega
 have Jh:=hid (show ∀ W,Below w.heap.size w W->Calls Tryz.prog 87 #[.agg #[.slice (some ⟨gp,op,none⟩) ts.length c,.int .i64 (k:Nat),.int .i64 (0:Nat),.int .i64 (0:Nat)]] W (qc (.slice (some ⟨gp,op,none⟩) ts.length c) ts.length (gy ts k) W) from fun W hl=>zM (o:=Out.ok () k) hG W (hP.below hl) ⟨rfl,hk⟩);generalize au ts k=ZR at c0 b1;generalize str (aj ts k)=S at c1;generalize aT ts k=N at c2;generalize (tk ts k).line=ln at c3;generalize (tk ts k).xy=cl at c4
 replace c0:=(HL.out.cell (p:=⟨gp,_,none⟩) lp).trans c0
 replace c1:=(HL.out.cell (p:=⟨gp,_,none⟩) lp).trans c1
 replace c2:=(HL.out.cell (p:=⟨gp,_,none⟩) lp).trans c2
 replace c3:=(HL.out.cell (p:=⟨gp,_,none⟩) lp).trans c3
 replace c4:=(HL.out.cell (p:=⟨gp,_,none⟩) lp).trans c4
 replace lp:=Nat.lt_of_lt_of_le lp HL.out.size
 clear hP hk hb1 h1;go_enter Tryz.func125,Tryz.ntmps125;go_upto_region 1 with (fail)
 change Code.wp _ _ _ _ (bM w (some ⟨gp,op,none⟩) ts.length c k 0 0);generalize bM w (some ⟨gp,op,none⟩) ts.length c k 0 0=w1 at HL HA HZ lp c0 c1 c2 c3 c4 ⊢;generalize hgb:w.heap.size=gb at HA HZ ⊢;have di:=hid hgb;clear hgb;have a0:=ag HA.out;have z0:=ag HZ.out;have eZ:=aL HA.out;have kX:=aL HZ.out;go_wp2_with fail
 refine hC (R:=fun V=>Hid (Sits V gb 57 #[.slice (some ⟨gp,op,none⟩) ts.length c,.int .i64 ((k:Nat)),.int .i64 (0:Nat),.int .i64 (0:Nat)])/\Hid (Sits V (gb+1) 57 #[.slice none 0 0,.int .i64 0,.int .i64 0,.int .i64 0])/\Hid (Sits V w1.heap.size 66 #[.int .u8 (ZR:Nat),.string S,.int .u64 (N:Nat),.int .i64 (ln:Nat),.int .i64 (cl:Nat)])/\Hid (Below w.heap.size w V)) ⟨HA.out.alloc _,HZ.out.alloc _,Sits.made rfl _ _,HL.out.alloc HL.out.size _⟩ ?_;rintro w2 ⟨HA2,HZ2,qz,HL2⟩;have iE:Hid (gb+1<w1.heap.size):=hid HZ.out.lt;generalize w1.heap.size=g6 at qz iE ⊢;clear a0 eZ z0 kX;refine (Jh.out _ HL2.out).mono ?_;rintro x w3 ⟨u2,x2,rfl,h1',h2',hb⟩;obtain ⟨k2,j2,e2,rfl⟩:=h1'.cells;have dO:=hid h1';have Gg:=hid h2';have HZ2:=hid (HZ2.out.below hb HZ2.out.lt);have qz:=hid (qz.out.below hb qz.out.lt);have HL2:=hid (HL2.out.trans (hb.mono HL2.out.size));clear h1' h2' hb;go_wp2_with fail
 have hlow:=aO w3 (.cells #[.slice (some ⟨gp,op,none⟩) ts.length c,.int .i64 (k2:Nat),.int .i64 (j2:Nat),.int .i64 (e2:Nat)] 57);have gD:=hid (Sits.new w3 57 #[.slice (some ⟨gp,op,none⟩) ts.length c,.int .i64 (k2:Nat),.int .i64 (j2:Nat),.int .i64 (e2:Nat)]);have HZ2:=hid (HZ2.out.below hlow HZ2.out.lt);have qz:=hid (qz.out.below hlow qz.out.lt);have HL2:=hid (HL2.out.trans (hlow.mono HL2.out.size));change Code.wp _ _ _ _ (w3.alloc (.cells #[.slice (some ⟨gp,op,none⟩) ts.length c,.int .i64 (k2:Nat),.int .i64 (j2:Nat),.int .i64 (e2:Nat)] 57));generalize w3.alloc (.cells #[.slice (some ⟨gp,op,none⟩) ts.length c,.int .i64 (k2:Nat),.int .i64 (j2:Nat),.int .i64 (e2:Nat)] 57)=w4 at gD HZ2 qz HL2 ⊢;generalize w3.heap.size=g10 at gD ⊢;clear hlow;have z0:=ag HZ2.out;have kX:=aL HZ2.out;obtain ⟨h0,h1,h2,h3,hl⟩:=ag gD.out;have n2:=qz.out.cell 2;have nl:=qz.out.lt;go_region
 go_wp2_with fail
 have hl0:=aG HL2.out (g:=(gb+1)) (by have:=di.out;omega) (.slice (some ⟨gp,op,none⟩) ts.length c) (.int .i64 ((k2:Nat))) (.int .i64 ((j2:Nat))) (.int .i64 ((e2:Nat)));refine hB (R:=fun V=>Sits V (gb+1) 57 #[.slice (some ⟨gp,op,none⟩) ts.length c,.int .i64 ((k2:Nat)),.int .i64 ((j2:Nat)),.int .i64 ((e2:Nat))]/\Sits V w4.heap.size 166 #[.int .u8 1,.int .u8 0,.int .u64 0,.int .u8 0,.int .u8 (x2:Nat),.int .u8 0]/\Below w.heap.size w V) ⟨((aA HZ2.out (.slice (some ⟨gp,op,none⟩) ts.length c) (.int .i64 ((k2:Nat))) (.int .i64 ((j2:Nat))) (.int .i64 ((e2:Nat)))).alloc _).drew,(Sits.made (by simp) _ _).drew,(hl0.alloc hl0.size _).drew⟩ ?_;rintro W9 ⟨hs,hi,hl⟩;obtain ⟨s0,s1,s2,s3,_⟩:=ag hs;have HF:=hid hl;have HI:=hid hi;have jK:=hid (show w.heap.size<=w4.heap.size from HL2.out.size);generalize w4.heap.size=g9 at HI jK ⊢;clear hs hl hl0 hi;exact bodyPost_ret (v:=.tuple #[.slice (some ⟨g9,0,none⟩) 1 1,.agg #[.slice (some ⟨gp,op,none⟩) ts.length c,.int .i64 (k2:Nat),.int .i64 (j2:Nat),.int .i64 (e2:Nat)]]) (by simp [results,Tryz.results125,go_sem,s0,s1,s2,s3]) rfl ⟨_,[⟨1,0,0,0,x2,0⟩],_,rfl,dO.out.yf,dF.one HI.out jK.out,(fun a q h=>by obtain ⟨y,hy,rfl⟩:=map_ok h;rw [Gg.out y q hy];rfl),HB1.out,HF.out⟩
theorem NU {ts:List Lex.Tok} (hG:gM ts) (gp op c k b:Nat) (ask:Bool) (w:World) (hP:dK w (.slice (some ⟨gp,op,none⟩) ts.length c) ts) (hk:k<ts.length) (hb1:1<=b) :
  Calls Tryz.prog 125 #[.agg #[.slice (some ⟨gp,op,none⟩) ts.length c,.int .i64 (k:Nat),.int .i64 (0:Nat),.int .i64 (0:Nat)],.bool ask] w (bY (.slice (some ⟨gp,op,none⟩) ts.length c) ts.length b (fo ts ask k) w):=by
 unfold fo;cases ask with
 | true =>
  rw [if_pos rfl];by_cases h1:au ts k=1
  ·rw [if_pos h1]
   by_cases h2:aj ts (k+1)=[58]
   ·rw [if_pos h2]
    by_cases h4:aT ts k<4
    ·rw [if_pos h4];exact Ug hG gp op c k b w hP hk hb1 h1 h2 h4
    ·rw [if_neg h4];exact QU hG gp op c k b w hP hk hb1 h1 h2 (by omega)
   ·rw [if_neg h2]
    by_cases h3:au ts (k+1)=3
    ·exact Dx hG gp op c k b w hP hk hb1 h1 true (.inr (.inr ⟨rfl,h3,h2⟩))
    ·exact Dx hG gp op c k b w hP hk hb1 h1 true (.inr (.inl ⟨rfl,h3⟩))
  ·rw [if_neg h1];exact QV hG gp op c k b w hP hk hb1 h1
 | false =>
  rw [if_neg (by decide)];by_cases h1:au ts k=1
  ·rw [if_pos h1];exact Dx hG gp op c k b w hP hk hb1 h1 false (.inl rfl)
  ·rw [if_neg h1];exact QW hG gp op c k b w hP hk hb1 h1
end Go.Proofs.YtaanhmndeobgbaaGreatDoor.fT
