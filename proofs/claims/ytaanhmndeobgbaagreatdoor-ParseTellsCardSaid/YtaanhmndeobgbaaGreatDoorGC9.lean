/- Part 30 of the proof: what is used of the texts PrsQ. -/
import Derived.Test.YtaanhmndeobgbaaGreatDoorGB6
import Derived.Test.YtaanhmndeobgbaaGreatDoorGB0
import Derived.Deep.QuietTactic
import Derived.BigQuiet
set_option maxRecDepth 100000
set_option maxHeartbeats 2000000
namespace Go.Proofs.YtaanhmndeobgbaaGreatDoor.fT
open Go.RowKit Mem Go.Proofs.YtaanhmndeobgbaaGreatDoor.Expr Prog
open Lex (Tok)
theorem Q0 {p:Nat->Bool}:∀ {l:List Nat} {j x:Nat},l[j]? = some x->p x=true->(∀ (i y:Nat),i<j->l[i]? = some y->p y=false)->l.find? p=some x:=by
 intro l;induction l with
 | nil=>intro j x h;simp at h
 | cons a l ih =>
  intro j x h hp hb;cases j with
  | zero =>
   obtain rfl:a=x:=by simpa using h
   rw [List.find?_cons_of_pos hp]
  | succ j =>
   rw [List.find?_cons_of_neg (by rw [hb 0 a (by omega) rfl];exact Bool.false_ne_true)];exact ih (by simpa using h) hp fun i y hi hy=>hb (i+1) y (by omega) (by simpa using hy)
theorem Q3 {p:Nat->Bool} {l:List Nat} (h:∀ (i y:Nat),l[i]? = some y->p y=false):l.find? p=none:=by
 rw [List.find?_eq_none];intro y hy;obtain ⟨i,hi⟩:=List.mem_iff_getElem?.1 hy;rw [h i y hi];exact Bool.false_ne_true
theorem KS (k:Nat) (w:World):Calls Tryz.prog 144 #[.int .u8 (k:Nat)] w (Bp k w):=by
 by_cases hk:k<256
 ·exact Kl k hk w
 ·have hm:dV k=[]:=by unfold dV;rw [if_neg (by omega),if_neg (by omega),if_neg (by omega),if_neg (by omega)]
  have HM:=Lib.hid hm;have i2:((k:Int) == 2)=false:=beq_eq_false_iff_ne.2 (by omega);have i3:((k:Int) == 3)=false:=beq_eq_false_iff_ne.2 (by omega);have i4:((k:Int) == 4)=false:=beq_eq_false_iff_ne.2 (by omega);have i5:((k:Int) == 5)=false:=beq_eq_false_iff_ne.2 (by omega);have i6:((k:Int) == 6)=false:=beq_eq_false_iff_ne.2 (by omega);have i7:((k:Int) == 7)=false:=beq_eq_false_iff_ne.2 (by omega);clear hk hm;go_enter Tryz.func144,Tryz.ntmps144;go_wp2_with fail
  go_ret;exact ⟨_,rfl,.inl ⟨HM.out,rfl⟩,Below.refl _ _⟩
theorem FI (k:Nat) (w:World):Calls Tryz.prog 144 #[.int .u8 (k:Nat)] w fun e' w'=>∃ p,e' = .returned (.slice p (dV k).length (dV k).length)/\(∀ i,i<(dV k).length->∃ g,p=some ⟨g,0,none⟩/\Sits w' g 5 ((dV k).map fun (n:Nat)=>Value.int .u8 (n:Int)).toArray)/\Below w.heap.size w w' :=
 (KS k w).mono fun e' w' hp=>by
  obtain ⟨v,he,hs,hb⟩:=hp;rcases hs with ⟨h0,hv⟩ | ⟨g,hv,hs⟩
  ·exact ⟨none,by rw [he,hv,h0];rfl,⟨fun i h=>(by rw [h0] at h;cases h),hb⟩⟩
  ·exact ⟨_,by rw [he,hv],⟨fun _ _=>⟨g,rfl,hs⟩,hb⟩⟩
theorem A7 (k:Nat):(dV k).length<=4/\∀ (i y:Nat),(dV k)[i]? = some y->y<256:=by
 unfold dV;have key:∀ l:List Nat,(l.all fun y=>decide (y<256))=true->∀ (i y:Nat),l[i]? = some y->y<256:=fun l hl i y hy=>by
  simpa using List.all_eq_true.1 hl y (List.mem_of_getElem? hy)
 split
 ·exact ⟨by decide,key _ (by decide)⟩
 split
 ·exact ⟨by decide,key _ (by decide)⟩
 split
 ·exact ⟨by decide,key _ (by decide)⟩
 split
 ·exact ⟨by decide,key _ (by decide)⟩
 ·exact ⟨by decide,key _ (by decide)⟩
section
variable {gR gp cap : Nat} {ts : List Lex.Tok}
theorem St.below {w w':World} {gS:Nat} {m:Mk} (h:St w gS gR gp m) (hb:Below w.heap.size w w'):St w' gS gR gp m :=
 h.stable (Stable.below hb) fun _ hc=>hc.below hb hc.lt
theorem St.byte {w:World} {gS:Nat} {m m':Mk} (h:St w gS gR gp m) (i:Nat) (v:Value) (he:∀ av bv,(TK m av bv jW jW).setIfInBounds i v=TK m' av bv jW jW) (ha:m'.a=m.a) (hb:m'.b=m.b):St (w.setCell ⟨gS,i,none⟩ v) gS gR gp m':=by
 obtain ⟨⟨av,bv,hx,h1,h2⟩,hf,hl⟩:=h;have hst:=Stable.put (t:=159) hx (by decide) i v;have hp:=hx.put i v;rw [he] at hp;exact ⟨⟨av,bv,hp,by rw [ha];exact h1.stable hst,by rw [hb];exact h2.stable hst⟩,hf,hl⟩
theorem Oh {m:Mk} {k x:Nat} (hq:au ts k=2) (h:((dV m.kind).find? fun x=>decide (aH x=aj ts k))=some x):fP ts m k = .ok { m with mode:=x } (k+1):=by
 unfold fP;rw [show jc ts m.kind k = .ok x (k+1) from fM (f:=fun s=>(ui m.kind).find? fun m=>decide (aH m=s)) hq h];rfl
theorem KT {m:Mk} {k:Nat} (hq:au ts k=2) (h:((dV m.kind).find? fun x=>decide (aH x=aj ts k))=none):fP ts m k = .bad k 7:=by
 unfold fP;rw [show jc ts m.kind k = .bad k 7 from fO (f:=fun s=>(ui m.kind).find? fun m=>decide (aH m=s)) hq h];rfl
theorem KU:zh 117 (fP ts) gR gp cap ts:=by
 intro gS m k w h hs;have HO:=Lib.hid (pI h 2);have HP:=Lib.hid (fun W=>fw (tk ts k) 7 W);have HM:=Lib.hid (fun e=>h.good.more k h.lt e);have HS:=Lib.hid hs;have HR:=Lib.hid h;have fH:=Lib.hid (show gS≠gR by have:=hs.late;omega);clear h hs;go_enter Tryz.func117,Tryz.ntmps117;go_wp2_with fail
 refine HO.out.mono ?_;rintro e w1 ⟨hk,hp⟩;have HK:=Lib.hid hk;rcases hp with ⟨hq,rfl,hr⟩ | ⟨hq,rfl⟩
 ·have HR1:=Lib.hid (hr (HM.out (by rw [hq];decide)))
  have HQ:=Lib.hid hq;have nC:=Lib.hid (HS.out.keepR HR.out hk);have hz:=Sits.new w1 99 ay;have HZ:=Lib.hid hz;have hkk:=bK (w1.alloc (.cells ay 99)) w1.heap.size (pc (tk ts k));have hs:Sits ((w1.alloc (.cells ay 99)).setRow w1.heap.size (pc (tk ts k))) w1.heap.size 99 (pc (tk ts k)):=setRow_heap _ _ _ _ _ _ hz;have hlow:Below w1.heap.size w1 ((w1.alloc (.cells ay 99)).setRow w1.heap.size (pc (tk ts k))):=behind ((Below.refl _ _).alloc (Nat.le_refl _) _) hkk (by simp) (fun x e=>by rw [e];exact Nat.le_refl _);clear hk hq hr hz hkk;go_upto_region 1 with (refine wpList_store_row rfl 99 _ _ rfl w1.heap.size (pc (tk ts k)) rfl rfl 99 ay HZ.out jq rfl (jr _) ?_)
  change Code.wp _ _ _ _ ((w1.alloc (.cells ay 99)).setRow w1.heap.size (pc (tk ts k)));generalize (w1.alloc (.cells ay 99)).setRow w1.heap.size (pc (tk ts k))=W2 at hs hlow ⊢;generalize w1.heap.size=g1 at hs ⊢;have lQ:=Lib.hid hlow;have Uh:=Lib.hid hs;have HS2:=Lib.hid (nC.out.below hlow);have HR2:=Lib.hid (HR1.out.below hlow);have AP:=Lib.hid (HK.out.trans (aa.of_below hlow));obtain ⟨⟨av,bv,hb,_,_⟩,_,_⟩:=HS2.out;have c0:=hb.c0;have lS:=hb.lt;have LZ:=Lib.hid (FI m.kind W2);have HSM:=Lib.hid (A7 m.kind);unfold pc at HP;clear hs hlow hb HO;go_wp2_with fail
  refine LZ.out.mono ?_;rintro e W3 ⟨p,rfl,hrow,hb3⟩;have dO:=Lib.hid hrow;have HB3:=Lib.hid hb3;have Q4:=Lib.hid (Uh.out.below hb3 Uh.out.lt);have n4:(((dV m.kind).length:Nat):Int)<=4:=by have:=HSM.out.1;omega
  clear hrow hb3 c0 lS LZ;generalize hln:(dV m.kind).length=n at dO n4;have HN:=Lib.hid hln;clear hln;go_wp2_with fail
  go_loopg [15] n (fun gg v15 wx=>∃ j:Nat,j<=n/\gg=n - j/\v15 = .int .i64 (j:Nat)/\Hid (Below W3.heap.size W3 wx)/\Hid (∀ (i y:Nat),i<j->(dV m.kind)[i]? = some y->decide (aH y=aj ts k)=false))
  case atStart=>exact ⟨0,by omega,by omega,rfl,Lib.hid (Below.refl _ _),Lib.hid fun i y h=>by omega⟩
  case round =>
   obtain ⟨j,hj,rfl,rfl,AO,HF⟩:=hrel;have hpc:=Q4.out.below AO.out Q4.out.lt;obtain ⟨z0,z1,z2,z3,z4⟩:=ku hpc;have lz:=hpc.lt;change wr.cell? ⟨g1,1,none⟩=some (.string (str (aj ts k))) at z1;by_cases hjn:j<n
   ·obtain ⟨x,hx⟩:∃ x,(dV m.kind)[j]? = some x:=⟨_,List.getElem?_eq_getElem (by have:=HN.out;omega:j<(dV m.kind).length)⟩
    obtain ⟨gm,rfl,hm⟩:=dO.out j hjn;have hm':=hm.below AO.out hm.lt;have cm:wr.cell? ⟨gm,j,none⟩=some (.int .u8 (x:Nat)):=by
     have:=hm'.cell j;rw [this];have e:((dV m.kind).map fun (n:Nat)=>Value.int .u8 (n:Int)).toArray[j]? = some (.int .u8 (x:Nat)):=by
      rw [List.getElem?_toArray,List.getElem?_map,hx];rfl
     exact e
    have lm:=hm'.lt;have hx256:=HSM.out.2 j x hx;have Z0:=Lib.hid (fun W (hb:Below wr.heap.size wr W)=>yU x hx256 W ((HR2.out.all.2.below (HB3.out.trans (AO.out.mono HB3.out.size))).below hb));have HX:=Lib.hid hx;have m1:(j:Int)<(n:Int):=by omega
    have m0:(0:Int)<=(j:Int):=by omega
    have HE:=str_eq (aH x) (aj ts k);have KV:=Lib.hid (show str (tk ts k).text=str (aj ts k) from rfl);clear hm hm' hx hx256 hpc;rw [KV.out] at HP;generalize str (aj ts k)=y at z1 HE HP KV;generalize str (aH x)=u at Z0 HE;have HSJ:=Lib.hid (HS2.out.below (HB3.out.trans (AO.out.mono HB3.out.size)));have HRJ:=Lib.hid (HR2.out.below (HB3.out.trans (AO.out.mono HB3.out.size)));have Sv:=Lib.hid (Q4.out.below AO.out Q4.out.lt);by_cases hxe:aH x=aj ts k
    ·have WA:Hid (fP ts m k = .ok { m with mode:=x } (k+1)):=Lib.hid (Oh HQ.out (Q0 HX.out (decide_eq_true hxe) HF.out))
     rw [decide_eq_true hxe] at HE;clear hxe;go_wp2_with fail
     have X1:∀ y':Within (Under wr),y'.now.cell? ⟨g1,1,none⟩=some (.string y):=fun y'=>by
      have:=(Sv.out.below y'.ok Sv.out.lt).cell 1;rw [this];exact congrArg (fun z=>some (Value.string z)) KV.out
     have LT:∀ y':Within (Under wr),g1<y'.now.heap.size:=fun y'=>(Sv.out.below y'.ok Sv.out.lt).lt
     have ne:Nonempty (Within (Under wr)):=⟨⟨_,Under.refl wr⟩⟩
     have YT:=Lib.hid (fun y':Within (Under wr)=>Z0.out y'.now y'.ok);refine bS (Under wr) (Under.refl wr) (by kernel_rfl) (by kernel_rfl) ?_
     repeat (go_big_quiet_step (with_reducible exact iF (YT.out _)))
     refine wpQuiet_nil ?_;intro w3 hw3;have hb:Under wr w3:=by obtain ⟨y,rfl⟩:=hw3;exact y.ok
     have rZ:=Lib.hid (HSJ.out.below hb);have HR4:=Lib.hid (HRJ.out.below hb);have qJ:=Lib.hid (AP.out.trans (aa.of_below (HB3.out.trans ((AO.out.trans (hb.mono AO.out.size)).mono HB3.out.size))));obtain ⟨⟨av,bv,hbx,_,_⟩,_,_⟩:=rZ.out;have c2:=hbx.c2;have f2:=hbx.free 2;have l2:=hbx.lt
     have HD:=Lib.hid (show GV gR gp gS cap ts (fP ts m k) w (.returned (.tuple #[])) (w3.setCell ⟨gS,2,none⟩ (.int .u8 (x:Nat))) by
      rw [WA.out]
      exact ⟨(iR qJ.out).put (p:=⟨gS,2,none⟩) (.inl (.inr rfl)) _,rfl,rZ.out.byte (m':={ m with mode:=x }) 2 _ (fun _ _=>rfl) rfl rfl,HR4.out.dm rZ.out.far rZ.out.late 2 _⟩)
     clear hw3 hb X1 LT ne z0 z1 z2 z3 z4 lz cm lm hbx;go_wp2_with fail
     go_end0
     exact HD.out
    ·rw [decide_eq_false hxe] at HE
     have og:=Lib.hid hxe;clear hxe;go_wp2_with fail
     have X1:∀ y':Within (Under wr),y'.now.cell? ⟨g1,1,none⟩=some (.string y):=fun y'=>by
      have:=(Sv.out.below y'.ok Sv.out.lt).cell 1;rw [this];exact congrArg (fun z=>some (Value.string z)) KV.out
     have LT:∀ y':Within (Under wr),g1<y'.now.heap.size:=fun y'=>(Sv.out.below y'.ok Sv.out.lt).lt
     have ne:Nonempty (Within (Under wr)):=⟨⟨_,Under.refl wr⟩⟩
     have YT:=Lib.hid (fun y':Within (Under wr)=>Z0.out y'.now y'.ok);refine bS (Under wr) (Under.refl wr) (by kernel_rfl) (by kernel_rfl) ?_
     repeat (go_big_quiet_step (with_reducible exact iF (YT.out _)))
     refine wpQuiet_nil ?_;intro w3 hw3;have hb:Under wr w3:=by obtain ⟨y,rfl⟩:=hw3;exact y.ok
     have sZ:=Lib.hid (AO.out.trans (hb.mono AO.out.size));clear hw3 hb X1 LT ne;go_wp2_with fail
     go_roundg (n - (j+1))
     case measure=>omega
     case rel=>exact ⟨j+1,by omega,rfl,by go_num,sZ,Lib.hid fun i z hi hz=>by
      by_cases e:i<j
      ·exact HF.out i z e hz
      ·obtain rfl:i=j:=by omega
       rw [HX.out] at hz;injection hz with hz;subst hz
       exact decide_eq_false og.out⟩
   ·obtain rfl:j=n:=by omega
    have m1:¬ ((j:Int)<(j:Int)):=by omega
    have KV:=Lib.hid (show str (tk ts k).text=str (aj ts k) from rfl);have WA:Hid (fP ts m k = .bad k 7):=Lib.hid (KT HQ.out (Q3 fun i z hz=>HF.out i z (by have:=(List.getElem?_eq_some_iff.1 hz).1;have:=HN.out;omega) hz));have sZ:=Lib.hid (HB3.out.trans (AO.out.mono HB3.out.size));rw [KV.out] at HP;generalize str (aj ts k)=y at z1 HP;clear hpc hj hjn;go_wp2_with fail
    refine (HP.out _).mono ?_;rintro e w5 ⟨rfl,hb⟩;have Gc:=Lib.hid (sZ.out.trans (hb.mono sZ.out.size));clear hb;go_wp2_with fail
    rw [WA.out];exact ⟨rfl,iR (AP.out.trans (aa.of_below Gc.out)),rfl⟩
 ·have HF:Hid (fP ts m k = .bad k 3):=Lib.hid (by unfold fP;rw [show jc ts m.kind k = .bad k 3 from eO hq];rfl)
  clear hk hq;go_wp2_with fail
  rw [HF.out];exact ⟨rfl,iR HK.out,rfl⟩
theorem rO (W:World) (p:Addr) (u:Value):(W.setCell p u).heap.size=W.heap.size:=by simp [World.setCell]
theorem DC:Expr.Enters 116:=enters_of Tryz.func116 (by kernel_rfl) rfl
theorem DD:Expr.Enters 115:=enters_of Tryz.func115 (by kernel_rfl) rfl
theorem A8:Expr.Enters 145:=enters_of Tryz.func145 (by kernel_rfl) rfl
theorem FJ:Expr.Enters 117:=enters_of Tryz.func117 (by kernel_rfl) rfl
def jy (ts:List Lex.Tok):FuncId × (Mk->Nat->Out Mk):=(116,jv ts)
noncomputable def iX (ts:List Lex.Tok):FuncId × (Mk->Nat->Out Mk):=(115,gL ts)
noncomputable def yz (ts:List Lex.Tok):FuncId × (Mk->Nat->Out Mk):=(145,lV ts)
def jI (ts:List Lex.Tok):FuncId × (Mk->Nat->Out Mk):=(117,fP ts)
theorem GV.since {gS:Nat} {o:Out Mk} {w w1 w':World} {e:Ending} (hk:aa (Fj gR gS) w w1) (h:GV gR gp gS cap ts o w1 e w'):GV gR gp gS cap ts o w e w':=⟨hk.trans h.1,h.2⟩
theorem Ic {l:List (FuncId × (Mk->Nat->Out Mk))} (h:∀ p ∈ l,p=jy ts \/ p=iX ts \/ p=yz ts \/ p=jI ts):∀ p ∈ l,Expr.Enters p.1/\zh p.1 p.2 gR gp cap ts:=fun p hp=>by
 rcases h p hp with rfl | rfl | rfl | rfl
 ·exact ⟨DC,mg⟩
 ·exact ⟨DD,BB⟩
 ·exact ⟨A8,GY⟩
 ·exact ⟨FJ,KU⟩
theorem iJ {w:World} {gS k:Nat} {m:Mk} (l:List (FuncId × (Mk->Nat->Out Mk))) (hl:l.length<=100) (he:∀ p ∈ l,p=jy ts \/ p=iX ts \/ p=yz ts \/ p=jI ts) (t:TypeId) (cs:Array Value) (hcs:cs=(l.map fun p=>kG p.1 gR).toArray)
  (h:Rd w gR gp cap ts k) (hs:St w gS gR gp m) (cw:Nat) {n:Nat} (hn:w.heap.size=n):Calls Tryz.prog 114 #[.pointer (some ⟨gR,0,none⟩),.pointer (some ⟨gS,0,none⟩),.slice (some ⟨n,0,none⟩) l.length cw] (w.alloc (.cells cs t)) (GV gR gp gS cap ts (aW ts (l.map (·.2)) m k) w):=by
 subst hn;have hb:Below w.heap.size w (w.alloc (.cells cs t)):=(Below.refl _ _).alloc (Nat.le_refl _) _;have hgS:gS<w.heap.size:=by obtain ⟨⟨_,_,hx,_,_⟩,_,_⟩:=hs;exact hx.lt
 refine (GZ gS w.heap.size cw l hl m k _ (h.below hb) (hs.below hb) ⟨fun i p hp=>?_,Ic he,by have:=h.box.lt;omega,by omega⟩).mono fun e w' hg=>hg.since (aa.of_below hb)
 have hc:=(Sits.new w t cs).cell i;rw [hc,hcs];rw [List.getElem?_toArray,List.getElem?_map,hp];rfl
noncomputable def ny (ts:List Lex.Tok) (m:Mk) (k:Nat):Out Mk :=
 if aj ts k=uZ then aW ts (partsOf ts 2) { m with kind:=2 } (k+1)
 else if aj ts k=xM then aW ts (partsOf ts 4) { m with kind:=4 } (k+1)
 else if aj ts k=GL then aW ts (partsOf ts 5) { m with kind:=5 } (k+1)
 else if aj ts k=Kq then aW ts (partsOf ts 6) { m with kind:=6 } (k+1)
 else gL ts { m with kind:=1 } k
theorem St.Ui {w:World} {gS:Nat} {m:Mk} (h:St w gS gR gp m):w.cell? ⟨gS,0,none⟩=some (.int .u8 m.kind)/\w.frozen? ⟨gS,0,none⟩=false/\gS<w.heap.size:=by
 obtain ⟨⟨_,_,hx,_,_⟩,_,_⟩:=h;exact ⟨hx.cell 0,hx.free 0,hx.lt⟩
theorem Q5:zh 119 (ny ts) gR gp cap ts:=by
 intro gS m k w h hs;have H2:=Lib.hid (fun W (hr:Rd W gR gp cap ts k)=>(lU hr uZ (by decide):Calls _ _ #[_,.string (str [108,111,97,100])] W _));have H4:=Lib.hid (fun W (hr:Rd W gR gp cap ts k)=>(lU hr xM (by decide):Calls _ _ #[_,.string (str [115,119,97,112])] W _));have H5:=Lib.hid (fun W (hr:Rd W gR gp cap ts k)=>(lU hr GL (by decide):Calls _ _ #[_,.string (str [97,100,100])] W _));have H6:=Lib.hid (fun W (hr:Rd W gR gp cap ts k)=>(lU hr Kq (by decide):Calls _ _ #[_,.string (str [99,97,115])] W _));have HFI:=Lib.hid (BB (gR:=gR) (gp:=gp) (cap:=cap) (ts:=ts));have HS:=Lib.hid hs;have HR:=Lib.hid h;have HK:=Lib.hid (aa.refl (Fj gR gS) w);have HT:=Lib.hid (show ny ts m k=ny ts m k from rfl);have ec:gS=gS:=rfl;clear h hs ec HT;go_enter Tryz.func119,Tryz.ntmps119;go_wp2_with fail
 refine (H2.out _ HR.out).mono ?_;intro e v0 hp;rcases hp with ⟨hc,rfl,hk,hr⟩ | ⟨hc,rfl,hb⟩
 ·have hs1:=HS.out.keepR HR.out hk
  have HX:Hid (ny ts m k=aW ts ([jy ts,jI ts].map (·.2)) { m with kind:=2 } (k+1)):=Lib.hid (by unfold ny;rw [if_pos hc];rfl);have nC:=Lib.hid (hs1.byte (m':={ m with kind:=2 }) 0 (.int .u8 (2:Nat)) (fun _ _=>rfl) rfl rfl);have HR1:=Lib.hid (hr.dm hs1.far hs1.late 0 (.int .u8 (2:Nat)));have rz:=Lib.hid ((HK.out.trans (iR hk)).put (p:=⟨gS,0,none⟩) (.inl (.inr rfl)) (.int .u8 (2:Nat)));obtain ⟨c0,f0,l0⟩:=hs1.Ui;clear hc hk hr hs1;go_wp2_with fail
  have HC:=Lib.hid (iJ [jy ts,jI ts] (by simp) (by simp) 190 _ rfl HR1.out nC.out 2 (rO _ _ _));refine (HC.out).mono ?_;intro e w2 hg;have HD:=Lib.hid (GV.since rz.out hg);rw [<- HX.out] at HD;clear c0 f0 l0;cases ho:ny ts m k with
  | ok a k2 =>
   have he:=HD.out.2;rw [ho] at he;obtain ⟨rfl,_,_⟩:=he;clear ho hg;go_wp2_with fail
   go_end0
   exact HD.out
  | bad j er =>
   have he:=HD.out.2;rw [ho] at he;simp only at he
   subst he;rw [ho] at HD;clear ho hg;go_wp2_with fail
   exact ⟨rfl,HD.out⟩
 have Yt:=Lib.hid hc;have WB:=Lib.hid (HS.out.below hb);have Uj:=Lib.hid (HR.out.below hb);have WC:=Lib.hid (HK.out.trans (aa.of_below hb));clear hc hb;go_wp2_with fail
 refine (H4.out _ Uj.out).mono ?_;intro e v1 hp;rcases hp with ⟨hc,rfl,hk,hr⟩ | ⟨hc,rfl,hb⟩
 ·have hs1:=WB.out.keepR Uj.out hk
  have HX:Hid (ny ts m k=aW ts ([jy ts,iX ts,jI ts].map (·.2)) { m with kind:=4 } (k+1)):=Lib.hid (by unfold ny;rw [if_neg Yt.out,if_pos hc];rfl);have nC:=Lib.hid (hs1.byte (m':={ m with kind:=4 }) 0 (.int .u8 (4:Nat)) (fun _ _=>rfl) rfl rfl);have HR1:=Lib.hid (hr.dm hs1.far hs1.late 0 (.int .u8 (4:Nat)));have rz:=Lib.hid ((WC.out.trans (iR hk)).put (p:=⟨gS,0,none⟩) (.inl (.inr rfl)) (.int .u8 (4:Nat)));obtain ⟨c0,f0,l0⟩:=hs1.Ui;clear hc hk hr hs1;go_wp2_with fail
  have HC:=Lib.hid (iJ [jy ts,iX ts,jI ts] (by simp) (by simp) 190 _ rfl HR1.out nC.out 3 (rO _ _ _));refine (HC.out).mono ?_;intro e w2 hg;have HD:=Lib.hid (GV.since rz.out hg);rw [<- HX.out] at HD;clear c0 f0 l0;cases ho:ny ts m k with
  | ok a k2 =>
   have he:=HD.out.2;rw [ho] at he;obtain ⟨rfl,_,_⟩:=he;clear ho hg;go_wp2_with fail
   go_end0
   exact HD.out
  | bad j er =>
   have he:=HD.out.2;rw [ho] at he;simp only at he
   subst he;rw [ho] at HD;clear ho hg;go_wp2_with fail
   exact ⟨rfl,HD.out⟩
 have Z5:=Lib.hid hc;have WG:=Lib.hid (WB.out.below hb);have Uk:=Lib.hid (Uj.out.below hb);have WH:=Lib.hid (WC.out.trans (aa.of_below hb));clear hc hb;go_wp2_with fail
 refine (H5.out _ Uk.out).mono ?_;intro e v2 hp;rcases hp with ⟨hc,rfl,hk,hr⟩ | ⟨hc,rfl,hb⟩
 ·have hs1:=WG.out.keepR Uk.out hk
  have HX:Hid (ny ts m k=aW ts ([jy ts,iX ts,jI ts].map (·.2)) { m with kind:=5 } (k+1)):=Lib.hid (by unfold ny;rw [if_neg Yt.out,if_neg Z5.out,if_pos hc];rfl);have nC:=Lib.hid (hs1.byte (m':={ m with kind:=5 }) 0 (.int .u8 (5:Nat)) (fun _ _=>rfl) rfl rfl);have HR1:=Lib.hid (hr.dm hs1.far hs1.late 0 (.int .u8 (5:Nat)));have rz:=Lib.hid ((WH.out.trans (iR hk)).put (p:=⟨gS,0,none⟩) (.inl (.inr rfl)) (.int .u8 (5:Nat)));obtain ⟨c0,f0,l0⟩:=hs1.Ui;clear hc hk hr hs1;go_wp2_with fail
  have HC:=Lib.hid (iJ [jy ts,iX ts,jI ts] (by simp) (by simp) 190 _ rfl HR1.out nC.out 3 (rO _ _ _));refine (HC.out).mono ?_;intro e w2 hg;have HD:=Lib.hid (GV.since rz.out hg);rw [<- HX.out] at HD;clear c0 f0 l0;cases ho:ny ts m k with
  | ok a k2 =>
   have he:=HD.out.2;rw [ho] at he;obtain ⟨rfl,_,_⟩:=he;clear ho hg;go_wp2_with fail
   go_end0
   exact HD.out
  | bad j er =>
   have he:=HD.out.2;rw [ho] at he;simp only at he
   subst he;rw [ho] at HD;clear ho hg;go_wp2_with fail
   exact ⟨rfl,HD.out⟩
 have E8:=Lib.hid hc;have WI:=Lib.hid (WG.out.below hb);have Ul:=Lib.hid (Uk.out.below hb);have WJ:=Lib.hid (WH.out.trans (aa.of_below hb));clear hc hb;go_wp2_with fail
 refine (H6.out _ Ul.out).mono ?_;intro e v3 hp;rcases hp with ⟨hc,rfl,hk,hr⟩ | ⟨hc,rfl,hb⟩
 ·have hs1:=WI.out.keepR Ul.out hk
  have HX:Hid (ny ts m k=aW ts ([jy ts,iX ts,yz ts,jI ts].map (·.2)) { m with kind:=6 } (k+1)):=Lib.hid (by unfold ny;rw [if_neg Yt.out,if_neg Z5.out,if_neg E8.out,if_pos hc];rfl);have nC:=Lib.hid (hs1.byte (m':={ m with kind:=6 }) 0 (.int .u8 (6:Nat)) (fun _ _=>rfl) rfl rfl);have HR1:=Lib.hid (hr.dm hs1.far hs1.late 0 (.int .u8 (6:Nat)));have rz:=Lib.hid ((WJ.out.trans (iR hk)).put (p:=⟨gS,0,none⟩) (.inl (.inr rfl)) (.int .u8 (6:Nat)));obtain ⟨c0,f0,l0⟩:=hs1.Ui;clear hc hk hr hs1;go_wp2_with fail
  have HC:=Lib.hid (iJ [jy ts,iX ts,yz ts,jI ts] (by simp) (by simp) 190 _ rfl HR1.out nC.out 4 (rO _ _ _));refine (HC.out).mono ?_;intro e w2 hg;have HD:=Lib.hid (GV.since rz.out hg);rw [<- HX.out] at HD;clear c0 f0 l0;cases ho:ny ts m k with
  | ok a k2 =>
   have he:=HD.out.2;rw [ho] at he;obtain ⟨rfl,_,_⟩:=he;clear ho hg;go_wp2_with fail
   go_end0
   exact HD.out
  | bad j er =>
   have he:=HD.out.2;rw [ho] at he;simp only at he
   subst he;rw [ho] at HD;clear ho hg;go_wp2_with fail
   exact ⟨rfl,HD.out⟩
 have HN3:=Lib.hid hc;have Q6:=Lib.hid (WI.out.below hb);have Z6:=Lib.hid (Ul.out.below hb);have Z7:=Lib.hid (WJ.out.trans (aa.of_below hb));clear hc hb;have HX:Hid (ny ts m k=gL ts { m with kind:=1 } k):=Lib.hid (by unfold ny;rw [if_neg Yt.out,if_neg Z5.out,if_neg E8.out,if_neg HN3.out]);have nC:=Lib.hid (Q6.out.byte (m':={ m with kind:=1 }) 0 (.int .u8 (1:Nat)) (fun _ _=>rfl) rfl rfl);have HR1:=Lib.hid (Z6.out.dm Q6.out.far Q6.out.late 0 (.int .u8 (1:Nat)));have rz:=Lib.hid (Z7.out.put (p:=⟨gS,0,none⟩) (.inl (.inr rfl)) (.int .u8 (1:Nat)));obtain ⟨c0,f0,l0⟩:=Q6.out.Ui;go_wp2_with fail
 refine (HFI.out gS _ k _ HR1.out nC.out).mono ?_;intro e w2 hg;have HD:=Lib.hid (GV.since rz.out hg);rw [<- HX.out] at HD;clear c0 f0 l0;cases ho:ny ts m k with
 | ok a k2 =>
  have he:=HD.out.2;rw [ho] at he;obtain ⟨rfl,_,_⟩:=he;clear ho hg;go_wp2_with fail
  go_end0
  exact HD.out
 | bad j er =>
  have he:=HD.out.2;rw [ho] at he;simp only at he
  subst he;rw [ho] at HD;clear ho hg;go_wp2_with fail
  exact ⟨rfl,HD.out⟩
end
end Go.Proofs.YtaanhmndeobgbaaGreatDoor.fT
