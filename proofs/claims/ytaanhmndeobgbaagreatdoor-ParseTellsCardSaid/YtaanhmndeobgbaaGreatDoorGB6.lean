/- Part 17 of the proof: what is used of the texts PrsF, PrsG, PrsH, PrsI, PrsJ. -/
import Derived.Test.YtaanhmndeobgbaaGreatDoorGB5
import Derived.Test.YtaanhmndeobgbaaGreatDoorGB0
set_option maxRecDepth 100000
set_option maxHeartbeats 1000000
namespace Go.Proofs.YtaanhmndeobgbaaGreatDoor.fT
open Go.RowKit Mem Go.Proofs.YtaanhmndeobgbaaGreatDoor.Expr
open Lex (Tok)
section
variable {F : FuncId} {ask : Bool} {gR gp cap : Nat} {ts : List Lex.Tok}
theorem Qv (L:M9 F ask gR gp cap ts):∀ (m k:Nat),ts.length - k<=m->Jj F ask gR gp cap ts k/\OpsC F ask gR gp cap ts k:=by
 intro m;induction m with
 | zero=>exact fun k hk=>⟨fun o out w _ _ h=>absurd h.lt (by omega),fun o least out w _ _ _ _ h=>absurd h.lt (by omega)⟩
 | succ m ih =>
  intro k hk;by_cases hlt:k<ts.length
  ·have hp:=Na L k (ih (k+1) (by omega)).1 (ih (k+1) (by omega)).2
   exact ⟨hp,Qs k hp fun k' hk'=>(ih k' (by omega)).2⟩
  ·exact ⟨fun o out w _ _ h=>absurd h.lt hlt,fun o least out w _ _ _ _ h=>absurd h.lt hlt⟩
theorem Nc (e:Ex):∀ m,iY (bA e) m=min e.depth m:=by
 induction e with
 | one op a ih =>
  intro m;cases m with
  | zero=>simp [bA,iY]
  | succ m=>simp only [bA,iY,Ex.depth,ih m];omega
 | two op a b iha ihb =>
  intro m;cases m with
  | zero=>simp [bA,iY]
  | succ m=>simp only [bA,iY,Ex.depth,iha m,ihb m];omega
 | _ =>
  intro m;cases m with
  | zero=>simp [bA,iY]
  | succ m=>simp [bA,iY,Ex.depth];try omega
theorem GR {k0:Nat} (hops:∀ k,k0<k->k<ts.length->∀ o least,o<=12->1<=least->∃ out,Px ts ask (.ops o least) k out/\∀ e k1,out = .ok e k1->k1<ts.length) (hg:Good ts) :
  ∀ (m k:Nat),ts.length - k<=m->k0<=k->k<ts.length->∀ o least e,o<=12->1<=least->∃ out,Px ts ask (.loop o least e) k out/\∀ e k1,out = .ok e k1->k1<ts.length:=by
 intro m;induction m with
 | zero=>intro k h1 _ h2;omega
 | succ m ih =>
  intro k h1 hk0 h2 o least e ho hl;by_cases h:ai (iH ts k)<least
  ·exact ⟨_,.stop h,fun e k1 h=>by injection h with _ h;omega⟩
  ·have hne:iH ts k≠0:=jV (by omega)
   have hk1:k+1<ts.length:=hg.more k h2 fun h0=>si hne (hg.fin k h2 h0)
   obtain ⟨out,hx,hb⟩:=hops (k+1) (by omega) hk1 o (ai (iH ts k)+1) ho (by omega);cases out with
   | ok r k2 =>
    have h3:k+1<k2:=hx.grows _ _ rfl;obtain ⟨out,hx2,hb2⟩:=ih k2 (by omega) (by omega) (hb _ _ rfl) o least (.two (iH ts k) e r) ho hl;exact ⟨out,.go (by omega) hx hx2,hb2⟩
   | bad j er=>exact ⟨_,.oO (by omega) hx,fun e k1 h=>by cases h⟩
theorem Nf (hg:Good ts) {e:Ex} {k k1:Nat} (hk:k<ts.length) (h:fo ts ask k = .ok e k1):k1<ts.length:=by
 have w:∀ {α:Type} {f:List UInt8->Option α} {a:α} {k k1:Nat},k<ts.length->jF ts f k = .ok a k1->k1<ts.length:=fun {α f a k k1} hk h=>by
  have e:=vg h;have hq:au ts k=2:=by
   by_cases hq:au ts k=2
   ·exact hq
   ·rw [eO hq] at h;cases h
  have:=hg.more k hk (by omega);omega
 unfold fo at h
 split at h
 ·split at h
  ·rename_i hq
   have h1:=hg.more k hk (by omega)
   split at h
   ·rename_i hc
    have h2:=hg.more (k+1) h1 fun h0=>by rw [hg.fin (k+1) h1 h0] at hc;cases hc
    split at h
    ·obtain ⟨a,h,_⟩:=map_ok h
     exact w h2 h
    ·cases h
   ·injection h with _ h;omega
  ·obtain ⟨a,h,_⟩:=map_ok h
   exact w hk h
 ·split at h
  ·rename_i hq
   have h1:=hg.more k hk (by omega);injection h with _ h;omega
  ·obtain ⟨a,h,_⟩:=map_ok h
   exact w hk h
theorem Ng (hg:Good ts) {o:Out Ex} {e:Ex} {k:Nat} (ho:∀ e k,o = .ok e k->k<ts.length) (h:o.close ts = .ok e k):k<ts.length:=by
 cases o with
 | ok a k' =>
  have h:(ak ts [41] k').map (fun _=>a) = .ok e k:=h;obtain ⟨u,h,_⟩:=map_ok h;unfold ak at h
  split at h
  ·rename_i hc
   injection h with _ h;have hk':=ho a k' rfl;have:=hg.more k' hk' fun h0=>by rw [hg.fin k' hk' h0] at hc;cases hc
   omega
  ·cases h
 | bad j er=>cases h
theorem vo (hg:Good ts):∀ (m k:Nat),ts.length - k<=m->k<ts.length->(∀ o,o<=12->∃ out,Px ts ask (.part o) k out/\∀ e k1,out = .ok e k1->k1<ts.length) /\
  ∀ o least,o<=12->1<=least->∃ out,Px ts ask (.ops o least) k out/\∀ e k1,out = .ok e k1->k1<ts.length:=by
 intro m;induction m with
 | zero=>intro k h1 h2;omega
 | succ m ih =>
  intro k h1 h2;have hp:∀ o,o<=12->∃ out,Px ts ask (.part o) k out/\∀ e k1,out = .ok e k1->k1<ts.length:=by
   intro o ho;by_cases h0:qw ts k=0
   ·by_cases ht:aj ts k=[40]
    ·by_cases hd:o=12
     ·exact ⟨_,.deep (.inr ht) hd,fun e k1 h=>by cases h⟩
     ·have hk1:=hg.more k h2 fun hq=>by rw [hg.fin k h2 hq] at ht;cases ht
      obtain ⟨out,hx,hb⟩:=(ih (k+1) (by omega) hk1).2 (o+1) 1 (by omega) (by omega);exact ⟨_,.paren h0 ht hd hx,fun e k1 h=>Ng hg hb h⟩
    ·exact ⟨_,.leaf h0 ht,fun e k1 h=>Nf hg h2 h⟩
   ·by_cases hd:o=12
    ·exact ⟨_,.deep (.inl h0) hd,fun e k1 h=>by cases h⟩
    ·have hk1:=hg.more k h2 fun hq=>si h0 (hg.fin k h2 hq)
     obtain ⟨out,hx,hb⟩:=(ih (k+1) (by omega) hk1).1 (o+1) (by omega);exact ⟨_,.sign h0 hd hx,fun e k1 h=>by obtain ⟨a,h,_⟩:=map_ok h;exact hb _ _ h⟩
  refine ⟨hp,fun o least ho hl=>?_⟩;obtain ⟨out,hx,hb⟩:=hp o ho;cases out with
  | ok e k1 =>
   have hlt:k<k1:=hx.grows _ _ rfl;obtain ⟨out,hx2,hb2⟩:=GR (k0:=k) (fun k' h1' h2'=>(ih k' (by omega) h2').2) hg (ts.length - k1) k1 (Nat.le_refl _) (by omega) (hb _ _ rfl) o least e ho hl;exact ⟨out,.first hx hx2,hb2⟩
  | bad j er=>exact ⟨_,.jU hx,fun e k1 h=>by cases h⟩
theorem mI (L:M9 F ask gR gp cap ts) {k:Nat} {w:World} (h:Rd w gR gp cap ts k):Calls Tryz.prog 46 #[.pointer (some ⟨gR,0,none⟩),kG F gR] w (Done gR gp cap ts qx (bG ts ask k) w):=by
 obtain ⟨out,hx,_⟩:=(vo (ask:=ask) h.good (ts.length - k) k (Nat.le_refl _) h.lt).2 0 1 (by omega) (by omega);have hex:=mF hx;rw [hex];have hi:=fun W hr=>(Qv L (ts.length - k) k (Nat.le_refl _)).2 0 1 out W (by omega) (by omega) (by omega) hx hr
 simp only [kG] at hi
 change ∀ W,_->Calls _ _ #[_,_,.int .i64 (0:Int),.int .i64 (1:Int)] _ _ at hi;have HI:=Lib.hid hi;have HN:=Lib.hid (je h);have Ar:=Lib.hid (show gR<w.heap.size from h.box.lt);have HRW:=Lib.hid h;have HST:=Lib.hid (fun W=>(show Calls _ _ #[.int .u8 (1:Int)] W fun e w'=>e = .returned (.int .i64 (1:Int))/\W=w' from jR 1 W));have HP:=Lib.hid (fun W=>fw (tk ts k) 4 W);unfold pc at HP;clear h hex hi hx;unfold kG;go_enter Tryz.func46,Tryz.ntmps46;go_wp2_with fail
 refine HN.out.mono ?_;rintro e w1 ⟨rfl,hb⟩;have hz:=Sits.new w1 99 ay;have HZ:=Lib.hid hz;have hkk:=bK (w1.alloc (.cells ay 99)) w1.heap.size (pc (tk ts k));have hs:Sits ((w1.alloc (.cells ay 99)).setRow w1.heap.size (pc (tk ts k))) w1.heap.size 99 (pc (tk ts k)):=setRow_heap _ _ _ _ _ _ hz;have xN:Below w1.heap.size w1 ((w1.alloc (.cells ay 99)).setRow w1.heap.size (pc (tk ts k))):=behind ((Below.refl _ _).alloc (Nat.le_refl _) _) hkk (by simp) (fun x e=>by rw [e];exact Nat.le_refl _);have hlow:=hb.trans (xN.mono hb.size);have fH:=Lib.hid (show gR≠w1.heap.size by have:=hb.size;have:=Ar.out;omega);clear hz hkk xN hb;go_upto_region 2 with (refine wpList_store_row rfl 99 _ _ rfl w1.heap.size (pc (tk ts k)) rfl rfl 99 ay HZ.out jq rfl (jr _) ?_)
 change Code.wp _ _ _ _ ((w1.alloc (.cells ay 99)).setRow w1.heap.size (pc (tk ts k)));generalize (w1.alloc (.cells ay 99)).setRow w1.heap.size (pc (tk ts k))=W3 at hs hlow ⊢;generalize w1.heap.size=g0 at hs fH ⊢;have HS:=Lib.hid hs;have HR:=Lib.hid (HRW.out.below hlow);have HK:=Lib.hid (aa.of_below hlow:aa (fun x=>x=gR) w W3);clear hs hlow HZ HN;go_wp2_with fail
 refine (HST.out _).mono ?_;rintro e w4 ⟨rfl,rfl⟩;go_wp2_with fail
 refine (HI.out _ HR.out).mono ?_;rintro e w5 ⟨hk,hp⟩;have C9:=Lib.hid (HK.out.trans hk);have Fh:=Lib.hid (HS.out.keep hk fH.out.symm);clear hk;cases out with
 | ok a k2 =>
  obtain ⟨⟨pt,rfl,hv⟩,hr⟩:=hp;have HV:=Lib.hid hv;have qE:=Lib.hid hr;have HD:=Lib.hid (J3 (bA a) _ w5 hv);rw [Nc] at HD;obtain ⟨z0,z1,z2,z3,z4⟩:=ku Fh.out;have lz:=Fh.out.lt;clear hv hr;by_cases hd:12<a.depth
  ·have HE:=Lib.hid (show pO k (.ok a k2) = .bad k 4 by unfold pO;simp only;rw [if_pos hd])
   have m1:(12:Int)<((min a.depth 13:Nat):Int):=by omega
   generalize min a.depth 13=d at m1 HD;clear hd z0 z1 z2 z3 z4 lz;go_wp2_with fail
   refine HD.out.mono ?_;rintro e w6 ⟨rfl,hb⟩;have HB:=Lib.hid hb;obtain ⟨z0,z1,z2,z3,z4⟩:=ku (Fh.out.below hb Fh.out.lt);have lz:=(Fh.out.below hb Fh.out.lt).lt;clear hb;generalize str (tk ts k).text=x at z1 HP;go_wp2_with fail
   refine (HP.out _).mono ?_;rintro e w7 ⟨rfl,hb⟩;have HB7:=Lib.hid (HB.out.trans (hb.mono HB.out.size));clear hb;go_wp2_with fail
   rw [HE.out];exact ⟨rfl,C9.out.trans (aa.of_below HB7.out),rfl⟩
  ·have HE:=Lib.hid (show pO k (.ok a k2) = .ok a k2 by unfold pO;simp only;rw [if_neg hd])
   have m1:¬ (12:Int)<((min a.depth 13:Nat):Int):=by omega
   generalize min a.depth 13=d at m1 HD;clear hd z0 z1 z2 z3 z4 lz;go_wp2_with fail
   refine HD.out.mono ?_;rintro e w6 ⟨rfl,hb⟩;have HB:=Lib.hid hb;clear hb;go_wp2_with fail
   go_ret;rw [HE.out];exact ⟨C9.out.trans (aa.of_below HB.out),⟨_,rfl,HV.out.below HB.out⟩,qE.out.below HB.out⟩
 | bad j er =>
  simp only at hp
  subst hp;go_wp2_with fail
  exact ⟨rfl,C9.out,rfl⟩
end
def dh (x n:Nat):Array Value:=#[.int .u8 (x:Nat),.int .u64 (n:Nat)]
def VZ:Nat × Nat->Ending->World->Prop:=fun a e _=>e = .returned (.agg (dh a.1 a.2))
theorem Qw:(Tryz.prog.info? 78).map (·.size)=some 2:=by kernel_rfl
theorem Qx (x n:Nat):(dh x n).all (·.oneCell')=true:=by
 rw [Array.all_eq_true'];intro u hu;simp only [dh,List.mem_toArray,List.mem_cons,List.not_mem_nil,or_false] at hu
 rcases hu with rfl | rfl <;> rfl
section
variable {w : World} {gR gp cap : Nat} {ts : List Lex.Tok} {k : Nat}
theorem Rd.setRow {w w0:World} {k0 k g0:Nat} {cs:Array Value} (h:Rd w gR gp cap ts k) (h0:Rd w0 gR gp cap ts k0) (hK:aa (fun x=>x=gR) w0 (w.setRow g0 cs)) (hne:g0≠gR) (Yc:gp≠g0):Rd (w.setRow g0 cs) gR gp cap ts k :=
 ⟨h.box.keep (bK w g0 cs) hne.symm,fun j i u hj hu=>by rw [World.cell?_of_block (w:=w) (setRow_other _ g0 gp _ Yc)];exact h.row j i u hj hu,h.lt,h.cap,h.few,h.far,h.good,h0.Fb hK⟩
theorem Kw (h:Rd w gR gp cap ts k):Calls Tryz.prog 40 #[.pointer (some ⟨gR,0,none⟩)] w (Done gR gp cap ts VZ (dC ts k) w):=by
 have hfn:=Bw;have hb:Below w.heap.size w (w.alloc (.cells (dh 0 0) 78)):=(Below.refl _ _).alloc (Nat.le_refl _) _;have HZ:=Lib.hid (Sits.new w 78 (dh 0 0));have fH:=Lib.hid (show w.heap.size≠gR by have:=h.box.lt;omega);have HRW:=Lib.hid h;have HB:=Lib.hid (aa.of_below hb:aa (fun x=>x=gR) w _);have HL:=Lib.hid (pR (h.below hb));have wy:=Lib.hid (fun k2 s (hs:s ≠ []) W (hr:Rd W gR gp cap ts k2)=>fA hr s hs);have HO:=Lib.hid (fun k2 W (hr:Rd W gR gp cap ts k2)=>pI hr 1);have HM:=Lib.hid (fun j h1 h2=>h.good.more j h1 h2);clear h hb;go_enter Tryz.func40,Tryz.ntmps40;go_wp2_with fail
 change Calls _ _ _ (w.alloc (.cells (dh 0 0) 78)) _;generalize w.alloc (.cells (dh 0 0) 78)=W0 at HZ HB HL ⊢;generalize hg0:w.heap.size=g0 at HZ fH ⊢;have sN:=Lib.hid hg0;have Jf:=Lib.hid (show gp≠g0 by have:gp<w.heap.size:=World.block_lt_of_cell? _ _ (HRW.out.at HRW.out.lt).1;omega);clear hg0;refine HL.out.mono ?_;rintro e w1 ⟨hk,hp⟩;have rz:=Lib.hid (HB.out.trans hk);have HZ1:=Lib.hid (HZ.out.keep hk fH.out);clear hk;cases hl:jo ts k with
 | bad j er =>
  rw [hl] at hp;simp only at hp
  subst hp;have HE:Hid (dC ts k = .bad j er):=Lib.hid (by unfold dC;rw [hl];rfl);clear hl;go_wp2_with fail
  rw [HE.out];exact ⟨rfl,rz.out,rfl⟩
 | ok x k1 =>
 rw [hl] at hp;obtain ⟨hv,hr⟩:=hp;simp only [Bv] at hv
 subst hv;have HS:=Lib.hid (wy.out k1 [61] (by simp) w1 hr);have HE:=Lib.hid (show dC ts k=(ak ts [61] k1).bind fun _ k=>(if au ts k=1 then Out.ok (aT ts k) (k+1) else Out.bad k 3).bind fun n k=>(ak ts [59] k).map fun _=>(x,n) by unfold dC;rw [hl];rfl);clear hl hr;go_wp2_with fail
 refine HS.out.mono ?_;rintro e w2 ⟨hk,hp⟩;have AP:=Lib.hid (rz.out.trans hk);have HZ2:=Lib.hid (HZ1.out.keep hk fH.out);clear hk;cases hl:ak ts [61] k1 with
 | bad j er =>
  rw [hl] at hp;simp only at hp
  subst hp;have HE2:Hid (dC ts k = .bad j er):=Lib.hid (by rw [HE.out,hl];rfl);clear hl;go_wp2_with fail
  rw [HE2.out];exact ⟨rfl,AP.out,rfl⟩
 | ok u k2 =>
 rw [hl] at hp;obtain ⟨hv,hr⟩:=hp;simp only [mH] at hv
 subst hv;have Zn:=Lib.hid (HO.out k2 w2 hr);have HR2:=Lib.hid hr;have HE2:=Lib.hid (show dC ts k=(if au ts k2=1 then Out.ok (aT ts k2) (k2+1) else Out.bad k2 3).bind fun n k=>(ak ts [59] k).map fun _=>(x,n) by rw [HE.out,hl];rfl);clear hl hr HE;go_wp2_with fail
 refine Zn.out.mono ?_;rintro e w3 ⟨hk,hp⟩;have ve:=Lib.hid (AP.out.trans hk);have HZ3:=Lib.hid (HZ2.out.keep hk fH.out);clear hk;rcases hp with ⟨hq,rfl,hr⟩ | ⟨hq,rfl⟩
 ·have hr3:=hr (HM.out k2 HR2.out.lt (by omega))
  have qp:=Lib.hid (wy.out (k2+1) [59] (by simp) w3 hr3);have Yd:=Lib.hid (show dC ts k=(ak ts [59] (k2+1)).map fun _=>(x,aT ts k2) by rw [HE2.out,if_pos hq];rfl);clear hq hr hr3 HE2;unfold pc;go_wp2_with fail
  refine qp.out.mono ?_;rintro e w4 ⟨hk,hp⟩;have qJ:=Lib.hid (ve.out.trans hk);have vV:=Lib.hid (HZ3.out.keep hk fH.out);clear hk;cases hl:ak ts [59] (k2+1) with
  | bad j er =>
   rw [hl] at hp;simp only at hp
   subst hp;have Zo:Hid (dC ts k = .bad j er):=Lib.hid (by rw [Yd.out,hl];rfl);clear hl;go_wp2_with fail
   rw [Zo.out];exact ⟨rfl,qJ.out,rfl⟩
  | ok u k4 =>
   rw [hl] at hp;obtain ⟨hv,hr⟩:=hp;simp only [mH] at hv
   subst hv;have Zo:Hid (dC ts k = .ok (x,aT ts k2) k4):=Lib.hid (by rw [Yd.out,hl];rfl);have HR4:=Lib.hid hr;clear hl hr;go_wp2_with (refine wpList_store_row rfl 78 _ _ rfl g0 (dh x (tk ts k2).num) rfl rfl 78 (dh 0 0) vV.out Qw rfl (Qx _ _) ?_)
   have hk5:=bK w4 g0 (dh x (tk ts k2).num);have hs:Sits (w4.setRow g0 (dh x (tk ts k2).num)) g0 78 (dh x (tk ts k2).num):=setRow_heap _ _ _ _ _ _ vV.out;have hK:aa (fun x=>x=gR) w (w4.setRow g0 (dh x (tk ts k2).num)):=((qJ.out.wider (fun x _ h => .inl h)).trans (hk5.wider (fun x _ h => .inr h)):aa (fun x=>x=gR \/ x=g0) w _).wider fun x hx h=>h.elim id (fun h=>by have:=sN.out;omega)
   have hR:=HR4.out.setRow HRW.out hK fH.out Jf.out;generalize w4.setRow g0 (dh x (tk ts k2).num)=W5 at hs hK hR ⊢;have C9:=Lib.hid hK;have qE:=Lib.hid hR;obtain ⟨z0,z1⟩:=hs.e2;clear hs hK hR hk5;exact bodyPost_ret (v:=.agg (dh x (tk ts k2).num)) (by simp [results,Tryz.results40,go_sem,z0,z1,dh,Act.put]) rfl ⟨C9.out,by rw [Zo.out];exact ⟨rfl,qE.out⟩⟩
 ·have Yd:Hid (dC ts k = .bad k2 3):=Lib.hid (by rw [HE2.out,if_neg hq];rfl)
  clear hq;go_wp2_with fail
  rw [Yd.out];exact ⟨rfl,ve.out,rfl⟩
def Sa:Bool->Ending->World->Prop:=fun a e _=>e = .returned (.bool a)
def jk (ts:List Lex.Tok) (k:Nat):Out Bool:=if au ts k=2 then if aj ts k=fC \/ aj ts k=dX then .ok (decide (aj ts k=dX)) (k+1) else .bad k 7 else .bad k 3
theorem Qy (l:List (Nat × Nat)) (q:List Prog.az) (k:Nat):uk ts l q k=(jk ts k).bind fun b k1=>(bG ts true k1).bind fun a k'=>(ak ts [59] k').bind fun _ k'=>if au ts k' = 0 then .ok ⟨l,q,b,some a⟩ (k' + 1) else .bad k' 3:=by
 unfold uk jk
 split
 ·split <;> rfl
 ·rfl
theorem Dc (a:List UInt8):(str a).toList=a:=by simp [str]
theorem GU (h:Rd w gR gp cap ts k):Calls Tryz.prog 45 #[.pointer (some ⟨gR,0,none⟩)] w (Done gR gp cap ts Sa (jk ts k) w):=by
 have HO:=Lib.hid (pI h 2);have HP:=Lib.hid (fun W=>fw (tk ts k) 7 W);have HM:=Lib.hid (fun e=>h.good.more k h.lt e);have E1:((str (aj ts k)).toList == [101,120,105,115,116,115])=decide (aj ts k=fC):=by
  have:=str_eq (aj ts k) fC;rw [Dc fC] at this;exact this
 have E2:((str (aj ts k)).toList == [102,111,114,97,108,108])=decide (aj ts k=dX):=by
  have:=str_eq (aj ts k) dX;rw [Dc dX] at this;exact this
 have hne:fC≠dX:=by decide
 clear h;go_enter Tryz.func45,Tryz.ntmps45;go_wp2_with fail
 refine HO.out.mono ?_;rintro e w1 ⟨hk,hp⟩;have HK:=Lib.hid hk;rcases hp with ⟨hq,rfl,hr⟩ | ⟨hq,rfl⟩
 ·have HR1:=Lib.hid (hr (HM.out (by rw [hq];decide)))
  have HQ:=Lib.hid hq;have hz:=Sits.new w1 99 ay;have HZ:=Lib.hid hz;have hkk:=bK (w1.alloc (.cells ay 99)) w1.heap.size (pc (tk ts k));have hs:Sits ((w1.alloc (.cells ay 99)).setRow w1.heap.size (pc (tk ts k))) w1.heap.size 99 (pc (tk ts k)):=setRow_heap _ _ _ _ _ _ hz;have hlow:Below w1.heap.size w1 ((w1.alloc (.cells ay 99)).setRow w1.heap.size (pc (tk ts k))):=behind ((Below.refl _ _).alloc (Nat.le_refl _) _) hkk (by simp) (fun x e=>by rw [e];exact Nat.le_refl _);clear hk hq hr hz hkk;go_upto_region 2 with (refine wpList_store_row rfl 99 _ _ rfl w1.heap.size (pc (tk ts k)) rfl rfl 99 ay HZ.out jq rfl (jr _) ?_)
  change Code.wp _ _ _ _ ((w1.alloc (.cells ay 99)).setRow w1.heap.size (pc (tk ts k)));generalize (w1.alloc (.cells ay 99)).setRow w1.heap.size (pc (tk ts k))=W2 at hs hlow ⊢;generalize w1.heap.size=g1 at hs ⊢;have lQ:=Lib.hid hlow;obtain ⟨s0,s1,s2,s3,s4⟩:=ku hs;have l1:=hs.lt;clear hlow hs HZ;unfold pc at HP;change W2.cell? ⟨g1,1,none⟩=some (.string (str (aj ts k))) at s1;change Hid (∀ W,Calls _ _ #[.agg #[_,.string (str (aj ts k)),_,_,_],_] W _) at HP;by_cases c2:aj ts k=dX
  ·have c1:aj ts k≠fC:=fun e=>hne (e.symm.trans c2)
   rw [decide_eq_false c1] at E1;rw [decide_eq_true c2] at E2;have HX:Hid (jk ts k = .ok true (k+1)):=Lib.hid (by unfold jk;rw [if_pos HQ.out,if_pos (.inr c2),decide_eq_true c2]);generalize str (aj ts k)=x at s1 E1 E2;clear c1 c2 hne;go_wp2_with fail
   go_ret;rw [HX.out];exact ⟨HK.out.trans (aa.of_below lQ.out),rfl,HR1.out.below lQ.out⟩
  ·by_cases c1:aj ts k=fC
   ·rw [decide_eq_true c1] at E1
    rw [decide_eq_false c2] at E2;have HX:Hid (jk ts k = .ok false (k+1)):=Lib.hid (by unfold jk;rw [if_pos HQ.out,if_pos (.inl c1),decide_eq_false c2]);generalize str (aj ts k)=x at s1 E1 E2;clear c1 c2 hne;go_wp2_with fail
    go_ret;rw [HX.out];exact ⟨HK.out.trans (aa.of_below lQ.out),rfl,HR1.out.below lQ.out⟩
   ·rw [decide_eq_false c1] at E1
    rw [decide_eq_false c2] at E2;have HX:Hid (jk ts k = .bad k 7):=Lib.hid (by unfold jk;rw [if_pos HQ.out,if_neg (fun h=>h.elim c1 c2)]);generalize str (aj ts k)=x at s1 E1 E2 HP;clear c1 c2 hne;go_wp2_with fail
    refine (HP.out _).mono ?_;rintro e w3 ⟨rfl,hb⟩;have HB3:=Lib.hid (lQ.out.trans (hb.mono lQ.out.size));clear hb;go_wp2_with fail
    rw [HX.out];exact ⟨rfl,HK.out.trans (aa.of_below HB3.out),rfl⟩
 ·have HF:Hid (jk ts k = .bad k 3):=Lib.hid (by unfold jk;rw [if_neg hq])
  clear hk hq;go_wp2_with fail
  rw [HF.out];exact ⟨rfl,HK.out,rfl⟩
end
end Go.Proofs.YtaanhmndeobgbaaGreatDoor.fT
namespace Go.Proofs.YtaanhmndeobgbaaGreatDoor.fT
open Go.RowKit Mem Go.Proofs.YtaanhmndeobgbaaGreatDoor.Expr Prog
open Lex (Tok)
def TK (m:Mk) (av bv tv ev:Value):Array Value:=#[.int .u8 m.kind,.int .u8 m.reg,.int .u8 m.mode,.int .u8 m.loc,av,bv,tv,ev]
def jW:Value:=.slice none 0 0
structure St (w:World) (gS gR gp:Nat) (m:Mk):Prop where
 box:∃ av bv,Sits w gS 119 (TK m av bv jW jW)/\Tree w (kr m.a) av/\Tree w (kr m.b) bv
 far:gp≠gS
 late:gR<gS
theorem St.stable {w w':World} {gS gR gp:Nat} {m:Mk} (h:St w gS gR gp m) (hs:Stable 159 w w') (hb:∀ cs,Sits w gS 119 cs->Sits w' gS 119 cs):St w' gS gR gp m:=by
 obtain ⟨⟨av,bv,h1,h2,h3⟩,h4,h5⟩:=h;exact ⟨⟨av,bv,hb _ h1,h2.stable hs,h3.stable hs⟩,h4,h5⟩
def Fj (gR gS:Nat):Nat->Prop:=fun x=>x=gR \/ x=gS
def GV (gR gp gS cap:Nat) (ts:List Lex.Tok) (o:Out Mk) (w:World) (e:Ending) (w':World):Prop :=
 aa (Fj gR gS) w w' /\ match o with
  | .ok m k=>e = .returned (.tuple #[])/\St w' gS gR gp m/\Rd w' gR gp cap ts k
  | .bad j er=>e = .panicked (GM (tk ts j) er)
def zh (F:FuncId) (pf:Mk->Nat->Out Mk) (gR gp cap:Nat) (ts:List Lex.Tok):Prop:=∀ (gS:Nat) (m:Mk) (k:Nat) (w:World),Rd w gR gp cap ts k->St w gS gR gp m ->
 Calls Tryz.prog F #[.pointer (some ⟨gR,0,none⟩),.pointer (some ⟨gS,0,none⟩)] w (GV gR gp gS cap ts (pf m k) w)
def jv (ts:List Lex.Tok) (m:Mk) (k:Nat):Out Mk:=(jo ts k).map fun x=>{ m with loc:=x }
noncomputable def gL (ts:List Lex.Tok) (m:Mk) (k:Nat):Out Mk:=(bG ts false k).map fun a=>{ m with a:=some a }
noncomputable def lV (ts:List Lex.Tok) (m:Mk) (k:Nat):Out Mk:=(bG ts false k).map fun b=>{ m with b:=some b }
section
variable {gR gp cap : Nat} {ts : List Lex.Tok}
theorem Rd.dm {w:World} {k gS:Nat} (h:Rd w gR gp cap ts k) (hp:gp≠gS) (hl:gR<gS) (i:Nat) (v:Value):Rd (w.setCell ⟨gS,i,none⟩ v) gR gp cap ts k:=by
 have hk:aa (fun x=>x=gS) w (w.setCell ⟨gS,i,none⟩ v):=(aa.refl (fun x=>x=gS) w).put (p:=⟨gS,i,none⟩) (.inl rfl) v
 exact ⟨h.box.keep hk (by omega),fun j i' u hj hu=>by rw [World.cell?_of_block (w:=w) (Below.heap_setCell w ⟨gS,i,none⟩ v gp hp)];exact h.row j i' u hj hu,h.lt,h.cap,h.few,h.far,h.good,
  h.base.imp fun _ ⟨a,b,c⟩=>⟨a,Mem.behind b hk b.size (fun x e=>by rw [e];omega),c⟩⟩
theorem mg:zh 116 (jv ts) gR gp cap ts:=by
 intro gS m k w h hs;have HL:=Lib.hid (pR h);have HS:=Lib.hid hs;have HR:=Lib.hid h;clear h hs;go_enter Tryz.func116,Tryz.ntmps116;go_wp2_with fail
 refine HL.out.mono ?_;rintro e w1 ⟨hk,hp⟩;have hne:gS≠gR:=by have:=HS.out.late;omega
 have HK:=Lib.hid hk;cases hl:jo ts k with
 | ok x k1 =>
  rw [hl] at hp;obtain ⟨hv,hr⟩:=hp;simp only [Bv] at hv
  subst hv;have hS1:=HS.out.stable (HR.out.stable hk) (fun cs h=>h.keep hk hne);obtain ⟨⟨av,bv,hb,ha,hbb⟩,hf,hlt⟩:=hS1;have HX:Hid (jv ts m k = .ok { m with loc:=x } k1):=Lib.hid (by unfold jv;rw [hl];rfl)
  have HD:=Lib.hid (show GV gR gp gS cap ts (jv ts m k) w (.returned (.tuple #[])) (w1.setCell ⟨gS,3,none⟩ (.int .u8 (x:Nat))) by
   rw [HX.out];have hst:=Stable.put (t:=159) hb (by decide) 3 (.int .u8 (x:Nat))
   exact ⟨(hk.wider (fun _ _ h => .inl h)).put (p:=⟨gS,3,none⟩) (.inl (.inr rfl)) _,rfl,⟨⟨av,bv,hb.put 3 _,ha.stable hst,hbb.stable hst⟩,hf,hlt⟩,hr.dm hf hlt 3 _⟩)
  have c3:=hb.c3;have f3:=hb.free 3;have l3:=hb.lt;clear hl hr ha hbb hf hlt hk hb hne;go_wp2_with fail
  go_end0
  exact HD.out
 | bad j er =>
  rw [hl] at hp;simp only at hp
  subst hp;have HX:Hid (jv ts m k = .bad j er):=Lib.hid (by unfold jv;rw [hl];rfl);clear hl hk;go_wp2_with fail
  rw [HX.out];exact ⟨rfl,HK.out.wider (fun _ _ h => .inl h),rfl⟩
theorem zi:M9 143 false gR gp cap ts:=⟨enters_of Tryz.func143 (by kernel_rfl) rfl,fun _ _ h=>Kr h⟩
theorem GX:M9 47 true gR gp cap ts:=⟨enters_of Tryz.func47 (by kernel_rfl) rfl,fun _ _ h=>Ku h⟩
theorem BB:zh 115 (gL ts) gR gp cap ts:=by
 intro gS m k w h hs;have HL:=Lib.hid (show Calls _ _ #[_,.func (.func 143) #[.pointer (some ⟨gR,0,none⟩)] #[]] w _ from mI zi h);have HS:=Lib.hid hs;have HR:=Lib.hid h;clear h hs;go_enter Tryz.func115,Tryz.ntmps115;go_wp2_with fail
 refine HL.out.mono ?_;rintro e w1 ⟨hk,hp⟩;have hne:gS≠gR:=by have:=HS.out.late;omega
 have HK:=Lib.hid hk;cases hl:bG ts false k with
 | ok x k1 =>
  rw [hl] at hp;obtain ⟨⟨pt,rfl,hv⟩,hr⟩:=hp;have hS1:=HS.out.stable (HR.out.stable hk) (fun cs h=>h.keep hk hne);obtain ⟨⟨av,bv,hb,ha,hbb⟩,hf,hlt⟩:=hS1;have HX:Hid (gL ts m k = .ok { m with a:=some x } k1):=Lib.hid (by unfold gL;rw [hl];rfl)
  have HD:=Lib.hid (show GV gR gp gS cap ts (gL ts m k) w (.returned (.tuple #[])) (w1.setCell ⟨gS,4,none⟩ (.pointer pt)) by
   rw [HX.out];have hst:=Stable.put (t:=159) hb (by decide) 4 (.pointer pt)
   exact ⟨(hk.wider (fun _ _ h => .inl h)).put (p:=⟨gS,4,none⟩) (.inl (.inr rfl)) _,rfl,⟨⟨.pointer pt,bv,hb.put 4 _,hv.stable hst,hbb.stable hst⟩,hf,hlt⟩,hr.dm hf hlt 4 _⟩)
  have c3:=hb.c4;have f3:=hb.free 4;have l3:=hb.lt;clear hl hr ha hbb hf hlt hk hb hne hv;go_wp2_with fail
  go_end0
  exact HD.out
 | bad j er =>
  rw [hl] at hp;simp only at hp
  subst hp;have HX:Hid (gL ts m k = .bad j er):=Lib.hid (by unfold gL;rw [hl];rfl);clear hl hk;go_wp2_with fail
  rw [HX.out];exact ⟨rfl,HK.out.wider (fun _ _ h => .inl h),rfl⟩
theorem GY:zh 145 (lV ts) gR gp cap ts:=by
 intro gS m k w h hs;have HL:=Lib.hid (show Calls _ _ #[_,.func (.func 143) #[.pointer (some ⟨gR,0,none⟩)] #[]] w _ from mI zi h);have HS:=Lib.hid hs;have HR:=Lib.hid h;clear h hs;go_enter Tryz.func145,Tryz.ntmps145;go_wp2_with fail
 refine HL.out.mono ?_;rintro e w1 ⟨hk,hp⟩;have hne:gS≠gR:=by have:=HS.out.late;omega
 have HK:=Lib.hid hk;cases hl:bG ts false k with
 | ok x k1 =>
  rw [hl] at hp;obtain ⟨⟨pt,rfl,hv⟩,hr⟩:=hp;have hS1:=HS.out.stable (HR.out.stable hk) (fun cs h=>h.keep hk hne);obtain ⟨⟨av,bv,hb,ha,hbb⟩,hf,hlt⟩:=hS1;have HX:Hid (lV ts m k = .ok { m with b:=some x } k1):=Lib.hid (by unfold lV;rw [hl];rfl)
  have HD:=Lib.hid (show GV gR gp gS cap ts (lV ts m k) w (.returned (.tuple #[])) (w1.setCell ⟨gS,5,none⟩ (.pointer pt)) by
   rw [HX.out];have hst:=Stable.put (t:=159) hb (by decide) 5 (.pointer pt)
   exact ⟨(hk.wider (fun _ _ h => .inl h)).put (p:=⟨gS,5,none⟩) (.inl (.inr rfl)) _,rfl,⟨⟨av,.pointer pt,hb.put 5 _,ha.stable hst,hv.stable hst⟩,hf,hlt⟩,hr.dm hf hlt 5 _⟩)
  have c3:=hb.c5;have f3:=hb.free 5;have l3:=hb.lt;clear hl hr ha hbb hf hlt hk hb hne hv;go_wp2_with fail
  go_end0
  exact HD.out
 | bad j er =>
  rw [hl] at hp;simp only at hp
  subst hp;have HX:Hid (lV ts m k = .bad j er):=Lib.hid (by unfold lV;rw [hl];rfl);clear hl hk;go_wp2_with fail
  rw [HX.out];exact ⟨rfl,HK.out.wider (fun _ _ h => .inl h),rfl⟩
end
def bf (ts:List Lex.Tok):Bool->List (Mk->Nat->Out Mk)->Mk->Nat->Out Mk
 | _,[],m,k => .ok m k
 | first,pf :: r,m,k=>(if first then .ok () k else ak ts [44] k).bind fun _ k=>(pf m k).bind fun m k=>bf ts false r m k
def aW (ts:List Lex.Tok) (l:List (Mk->Nat->Out Mk)) (m:Mk) (k:Nat):Out Mk:=(ak ts [40] k).bind fun _ k=>(bf ts true l m k).bind fun m k=>(ak ts [41] k).map fun _=>m
theorem mJ {α β:Type} {o:Out α} {f:α->Nat->Out β} {j er:Nat} (h:o = .bad j er):o.bind f = .bad j er:=by rw [h];rfl
theorem bind_ok {α β:Type} {o:Out α} {f:α->Nat->Out β} {a:α} {k:Nat} (h:o = .ok a k):o.bind f=f a k:=by rw [h];rfl
structure Fp (w:World) (gw gR gS cap:Nat) (gp:Nat) (ts:List Lex.Tok) (l:List (FuncId × (Mk->Nat->Out Mk))):Prop where
 row:∀ i p,l[i]? = some p->w.cell? ⟨gw,i,none⟩=some (kG p.1 gR)
 each:∀ p ∈ l,Expr.Enters p.1/\zh p.1 p.2 gR gp cap ts
 V8:gw≠gR
 V9:gw≠gS
theorem Fp.keep {w w':World} {gw gR gS cap gp:Nat} {ts:List Lex.Tok} {l:List (FuncId × (Mk->Nat->Out Mk))} (h:Fp w gw gR gS cap gp ts l) (hk:aa (Fj gR gS) w w'):Fp w' gw gR gS cap gp ts l :=
 ⟨fun i p hp=>by
  have hc:=h.row i p hp
  rw [World.cell?_of_block (w:=w) (hk.block gw (World.block_lt_of_cell? _ _ hc) (fun e=>e.elim h.V8 h.V9))];exact hc,h.each,h.V8,h.V9⟩
section
variable {gR gp cap : Nat} {ts : List Lex.Tok}
theorem iR {gS:Nat} {w w':World} (h:aa (fun x=>x=gR) w w'):aa (Fj gR gS) w w':=h.wider fun _ _ h => .inl h
theorem St.keepR {w w':World} {gS k:Nat} {m:Mk} (h:St w gS gR gp m) (hr:Rd w gR gp cap ts k) (hk:aa (fun x=>x=gR) w w'):St w' gS gR gp m :=
 h.stable (hr.stable hk) fun cs hc=>hc.keep hk (by have:=h.late;omega)
theorem GZ (gS gw cw:Nat) (l:List (FuncId × (Mk->Nat->Out Mk))) (hl:l.length<=100) (m:Mk) (k:Nat) (w:World) (h:Rd w gR gp cap ts k) (hs:St w gS gR gp m) (hw:Fp w gw gR gS cap gp ts l) :
  Calls Tryz.prog 114 #[.pointer (some ⟨gR,0,none⟩),.pointer (some ⟨gS,0,none⟩),.slice (some ⟨gw,0,none⟩) l.length cw] w (GV gR gp gS cap ts (aW ts (l.map (·.2)) m k) w):=by
 have wy:=Lib.hid (fun k2 s (hs:s ≠ []) W (hr:Rd W gR gp cap ts k2)=>fA hr s hs);have HS:=Lib.hid hs;have HR:=Lib.hid h;have HW:=Lib.hid hw;have S0:=Lib.hid (fA h [40] (by simp));have l1:(l.length:Int)<=100:=by omega
 clear h hs hw;go_enter Tryz.func114,Tryz.ntmps114;go_wp2_with fail
 refine S0.out.mono ?_;rintro e w1 ⟨hk,hp⟩;cases hq:ak ts [40] k with
 | bad j er =>
  rw [hq] at hp;simp only at hp
  subst hp;have HK:=Lib.hid hk;have HX:Hid (aW ts (l.map (·.2)) m k = .bad j er):=Lib.hid (mJ hq);clear hk hq;go_wp2_with fail
  rw [HX.out];exact ⟨rfl,iR HK.out,rfl⟩
 | ok u k1 =>
 rw [hq] at hp;obtain ⟨hv,hr⟩:=hp;simp only [mH] at hv
 subst hv;have HX:Hid (aW ts (l.map (·.2)) m k=(bf ts true (l.map (·.2)) m k1).bind fun m k=>(ak ts [41] k).map fun _=>m):=Lib.hid (bind_ok hq);have rz:=Lib.hid (iR (gS:=gS) hk);have nC:=Lib.hid (HS.out.keepR HR.out hk);have HR1:=Lib.hid hr;have HW1:=Lib.hid (HW.out.keep (iR hk));clear hk hr hq;go_wp2_with fail
 go_loopg [12] l.length (fun gg v12 wx=>∃ (i:Nat) (m':Mk) (k':Nat),i<=l.length/\gg=l.length - i/\v12 = .int .i64 (i:Nat)/\Hid (St wx gS gR gp m')/\Hid (Rd wx gR gp cap ts k')/\Hid (aa (Fj gR gS) w wx)/\Hid (bf ts true (l.map (·.2)) m k1=bf ts (decide (i=0)) ((l.drop i).map (·.2)) m' k')/\Hid (Fp wx gw gR gS cap gp ts l))
 case atStart=>exact ⟨0,m,k1,by omega,by omega,rfl,nC,HR1,rz,Lib.hid (by simp),HW1⟩
 case round =>
  obtain ⟨i,m',k',hi,rfl,rfl,Zp,Wd,Zq,Zr,Ye⟩:=hrel;by_cases hil:i<l.length
  ·have hx:l[i]? = some l[i]:=List.getElem?_eq_getElem hil
   generalize l[i]=p at hx;have hc:=Ye.out.row i p hx;unfold kG at hc;have Zt:=Lib.hid (Ye.out.each p (List.mem_of_getElem? hx));have en:=Zt.out.1;unfold Expr.Enters at en;have hd:l.drop i=p :: l.drop (i+1):=by
    rw [List.drop_eq_getElem_cons hil];rw [List.getElem?_eq_getElem hil] at hx;rw [Option.some.inj hx]
   have Qz:=Lib.hid (show bf ts true (l.map (·.2)) m k1=(if decide (i=0) then .ok () k' else ak ts [44] k').bind fun _ k=>(p.2 m' k).bind fun m k=>bf ts false ((l.drop (i+1)).map (·.2)) m k by rw [Zr.out,hd];rfl);have lw:=World.block_lt_of_cell? _ _ hc;have m1:(i:Int)<(l.length:Int):=by omega
   have m0:(0:Int)<=(i:Int):=by omega
   clear hd hx Zr;by_cases hi0:i=0
   ·have m2:¬ (0:Int)<(i:Int):=by omega
    have Vd:=Lib.hid (show bf ts true (l.map (·.2)) m k1=(p.2 m' k').bind fun m k=>bf ts false ((l.drop (i+1)).map (·.2)) m k by rw [Qz.out,if_pos (decide_eq_true hi0)];rfl);clear hi0 Qz;have HC:=Lib.hid (Zt.out.2 gS m' k' wr Wd.out Zp.out);go_wp2_with fail
    refine HC.out.mono ?_;rintro e w8 ⟨hk,hp⟩;have Ps:=Lib.hid (Zq.out.trans hk);have Zu:=Lib.hid (Ye.out.keep hk);clear hk;cases hq:p.2 m' k' with
    | bad j er =>
     rw [hq] at hp;simp only at hp
     subst hp;have lh:Hid (aW ts (l.map (·.2)) m k = .bad j er):=Lib.hid (by rw [HX.out,Vd.out,mJ hq];rfl);clear hq;go_wp2_with fail
     rw [lh.out];exact ⟨rfl,Ps.out,rfl⟩
    | ok m2 k3 =>
     rw [hq] at hp;obtain ⟨hv,Ve,We⟩:=hp;subst hv;have Vf:=Lib.hid Ve;have Vg:=Lib.hid We;have Zv:=Lib.hid (show bf ts true (l.map (·.2)) m k1=bf ts (decide (i+1=0)) ((l.drop (i+1)).map (·.2)) m2 k3 by rw [Vd.out,bind_ok hq,decide_eq_false (by omega)]);clear hq Ve We;go_wp2_with fail
     go_roundg (l.length - (i+1))
     case measure=>omega
     case rel=>exact ⟨i+1,m2,k3,by omega,rfl,by go_num,Vf,Vg,Ps,Zv,Zu⟩
   ·have m2:(0:Int)<(i:Int):=by omega
    have Vd:=Lib.hid (show bf ts true (l.map (·.2)) m k1=(ak ts [44] k').bind fun _ k=>(p.2 m' k).bind fun m k=>bf ts false ((l.drop (i+1)).map (·.2)) m k by rw [Qz.out,if_neg (by rw [decide_eq_false hi0];exact Bool.false_ne_true)]);have S1:=Lib.hid (wy.out k' [44] (by simp) wr Wd.out);clear hi0 Qz;go_wp2_with fail
    refine S1.out.mono ?_;rintro e w7 ⟨hk,hp⟩;have LX:=Lib.hid (Zq.out.trans (iR hk));have Sc:=Lib.hid (Zp.out.keepR Wd.out hk);have HW7:=Lib.hid (Ye.out.keep (iR hk));clear hk;cases hq:ak ts [44] k' with
    | bad j er =>
     rw [hq] at hp;simp only at hp
     subst hp;have TL:Hid (aW ts (l.map (·.2)) m k = .bad j er):=Lib.hid (by rw [HX.out,Vd.out,mJ hq];rfl);clear hq;go_wp2_with fail
     rw [TL.out];exact ⟨rfl,LX.out,rfl⟩
    | ok u7 k7 =>
     rw [hq] at hp;obtain ⟨hv,hr⟩:=hp;simp only [mH] at hv
     subst hv;have TJ:=Lib.hid hr;have HPG:=Lib.hid (show bf ts true (l.map (·.2)) m k1=(p.2 m' k7).bind fun m k=>bf ts false ((l.drop (i+1)).map (·.2)) m k by rw [Vd.out,bind_ok hq]);clear hq hr Vd;have HC:=Lib.hid (Zt.out.2 gS m' k7 w7 TJ.out Sc.out);go_wp2_with fail
     refine HC.out.mono ?_;rintro e w8 ⟨hk,hp⟩;have Ps:=Lib.hid (LX.out.trans hk);have Zu:=Lib.hid (HW7.out.keep hk);clear hk;cases hq:p.2 m' k7 with
     | bad j er =>
      rw [hq] at hp;simp only at hp
      subst hp;have lh:Hid (aW ts (l.map (·.2)) m k = .bad j er):=Lib.hid (by rw [HX.out,HPG.out,mJ hq];rfl);clear hq;go_wp2_with fail
      rw [lh.out];exact ⟨rfl,Ps.out,rfl⟩
     | ok m2 k3 =>
      rw [hq] at hp;obtain ⟨hv,Ve,We⟩:=hp;subst hv;have Vf:=Lib.hid Ve;have Vg:=Lib.hid We;have Zv:=Lib.hid (show bf ts true (l.map (·.2)) m k1=bf ts (decide (i+1=0)) ((l.drop (i+1)).map (·.2)) m2 k3 by rw [HPG.out,bind_ok hq,decide_eq_false (by omega)]);clear hq Ve We;go_wp2_with fail
      go_roundg (l.length - (i+1))
      case measure=>omega
      case rel=>exact ⟨i+1,m2,k3,by omega,rfl,by go_num,Vf,Vg,Ps,Zv,Zu⟩
  ·obtain rfl:i=l.length:=by omega
   have m1:¬ ((l.length:Int)<(l.length:Int)):=by omega
   have S1:=Lib.hid (wy.out k' [41] (by simp) wr Wd.out);have lh:Hid (aW ts (l.map (·.2)) m k=(ak ts [41] k').map fun _=>m'):=Lib.hid (by rw [HX.out,Zr.out,List.drop_length];rfl);clear hi hil;go_wp2_with fail
   refine S1.out.mono ?_;rintro e w2 ⟨hk,hp⟩;have AP:=Lib.hid (Zq.out.trans (iR hk));have HS2:=Lib.hid (Zp.out.keepR Wd.out hk);clear hk;cases hq:ak ts [41] k' with
   | bad j er =>
    rw [hq] at hp;simp only at hp
    subst hp;have TL:Hid (aW ts (l.map (·.2)) m k = .bad j er):=Lib.hid (by rw [lh.out,hq];rfl);clear hq;go_wp2_with fail
    rw [TL.out];exact ⟨rfl,AP.out,rfl⟩
   | ok u k2 =>
    rw [hq] at hp;obtain ⟨hv,hr⟩:=hp;simp only [mH] at hv
    subst hv;have TL:Hid (aW ts (l.map (·.2)) m k = .ok m' k2):=Lib.hid (by rw [lh.out,hq];rfl);have HR2:=Lib.hid hr;clear hq hr;go_wp2_with fail
    go_end0
    rw [TL.out];exact ⟨AP.out,rfl,HS2.out,HR2.out⟩
end
end Go.Proofs.YtaanhmndeobgbaaGreatDoor.fT
namespace Go.Proofs.YtaanhmndeobgbaaGreatDoor.fT
open Go.Proofs.YtaanhmndeobgbaaGreatDoor.Expr Prog
open Lex (Tok)
theorem dD {α β γ:Type} (o:Out α) (f:α->Nat->Out β) (g:β->Nat->Out γ):(o.bind f).bind g=o.bind fun a k=>(f a k).bind g:=by
 cases o <;> rfl
theorem dY {α β γ:Type} (o:Out α) (f:α->β) (g:β->Nat->Out γ):(o.map f).bind g=o.bind fun a k=>g (f a) k:=by
 cases o <;> rfl
theorem jH {α β γ:Type} (o:Out α) (f:α->Nat->Out β) (g:β->γ):(o.bind f).map g=o.bind fun a k=>(f a k).map g:=by
 cases o <;> rfl
theorem jX {α β γ:Type} (o:Out α) (f:α->β) (g:β->γ):(o.map f).map g=o.map fun a=>g (f a):=by
 cases o <;> rfl
def fP (ts:List Lex.Tok) (m:Mk) (k:Nat):Out Mk:=(jc ts m.kind k).map fun x=>{ m with mode:=x }
noncomputable def partsOf (ts:List Lex.Tok) (kind:Nat):List (Mk->Nat->Out Mk) :=
 if kind=7 then [fP ts] else if kind=2 then [jv ts,fP ts] else if kind=6 then [jv ts,gL ts,lV ts,fP ts] else [jv ts,gL ts,fP ts]
def dS (ts:List Lex.Tok) (m:Mk) (k:Nat):Out Mk:=(ak ts [59] k).map fun _=>m
theorem aN {α β:Type} (a:α) (k:Nat) (f:α->Nat->Out β):(Out.ok a k).bind f=f a k:=rfl
theorem G5 (ts:List Lex.Tok) (r k:Nat):bJ ts 7 r k=(aW ts (partsOf ts 7) ⟨7,r,0,0,none,none⟩ k).bind (dS ts):=by
 simp [bJ,aW,partsOf,bf,fP,dS,dD,dY,aN]
theorem TM (ts:List Lex.Tok) (r k:Nat):bJ ts 2 r k=(aW ts (partsOf ts 2) ⟨2,r,0,0,none,none⟩ k).bind (dS ts):=by
 simp [bJ,aW,partsOf,bf,jv,fP,dS,dD,dY,aN]
theorem TN (ts:List Lex.Tok) (r k:Nat):bJ ts 6 r k=(aW ts (partsOf ts 6) ⟨6,r,0,0,none,none⟩ k).bind (dS ts):=by
 simp [bJ,aW,partsOf,bf,jv,gL,lV,fP,dS,dD,dY,aN]
theorem G6 (ts:List Lex.Tok) (r k:Nat):bJ ts 3 r k=(aW ts (partsOf ts 3) ⟨3,r,0,0,none,none⟩ k).bind (dS ts):=by
 simp [bJ,aW,partsOf,bf,jv,gL,fP,dS,dD,dY,aN]
theorem TP (ts:List Lex.Tok) (r k:Nat):bJ ts 4 r k=(aW ts (partsOf ts 4) ⟨4,r,0,0,none,none⟩ k).bind (dS ts):=by
 simp [bJ,aW,partsOf,bf,jv,gL,fP,dS,dD,dY,aN]
theorem TQ (ts:List Lex.Tok) (r k:Nat):bJ ts 5 r k=(aW ts (partsOf ts 5) ⟨5,r,0,0,none,none⟩ k).bind (dS ts):=by
 simp [bJ,aW,partsOf,bf,jv,gL,fP,dS,dD,dY,aN]
noncomputable def TR (ts:List Lex.Tok) (r k:Nat):Out Mk :=
 if aj ts k=uZ then aW ts (partsOf ts 2) ⟨2,r,0,0,none,none⟩ (k+1)
 else if aj ts k=xM then aW ts (partsOf ts 4) ⟨4,r,0,0,none,none⟩ (k+1)
 else if aj ts k=GL then aW ts (partsOf ts 5) ⟨5,r,0,0,none,none⟩ (k+1)
 else if aj ts k=Kq then aW ts (partsOf ts 6) ⟨6,r,0,0,none,none⟩ (k+1)
 else gL ts ⟨1,r,0,0,none,none⟩ k
theorem De (ts:List Lex.Tok) (r k:Nat):qD ts r k=(TR ts r k).bind (dS ts):=by
 unfold qD TR
 split
 ·exact TM ts r _
 split
 ·exact TP ts r _
 split
 ·exact TQ ts r _
 split
 ·exact TN ts r _
 simp [gL,dS,dY]
section
variable {ts : List Lex.Tok}
def Out.In {α:Type} (n lo:Nat) (o:Out α):Prop:=∀ a k,o = .ok a k->lo<=k/\k<n
theorem kH {α:Type} {n lo j e:Nat}:(Out.bad (α:=α) j e).In n lo:=fun _ _ h=>by cases h
theorem rC {α:Type} {n lo k:Nat} {a:α} (h1:lo<=k) (h2:k<n):(Out.ok a k).In n lo:=fun _ _ h=>by injection h with _ h;subst h;exact ⟨h1,h2⟩
theorem fD {α β:Type} {n lo:Nat} {o:Out α} {f:α->Nat->Out β} (h1:o.In n lo) (h2:∀ a k,lo<=k->k<n->(f a k).In n lo):(o.bind f).In n lo:=by
 cases o with
 | bad j e=>exact kH
 | ok a k=>exact h2 a k (h1 a k rfl).1 (h1 a k rfl).2
theorem pV {α β:Type} {n lo:Nat} {o:Out α} {f:α->β} (h1:o.In n lo):(o.map f).In n lo:=by
 cases o with
 | bad j e=>exact kH
 | ok a k=>exact rC (h1 a k rfl).1 (h1 a k rfl).2
theorem Df {α:Type} {n lo l2:Nat} {o:Out α} (h:o.In n l2) (hl:lo<=l2):o.In n lo:=fun a k e=>⟨Nat.le_trans hl (h a k e).1,(h a k e).2⟩
theorem pW (hg:Good ts) {α:Type} {f:List UInt8->Option α} {k lo:Nat} (hk:k<ts.length) (hl:lo<=k+1):(jF ts f k).In ts.length lo:=by
 unfold jF
 split
 ·rename_i hq
  have:=hg.more k hk (by omega)
  split
  ·exact rC hl (by omega)
  ·exact kH
 ·exact kH
theorem fU (hg:Good ts) {s:List UInt8} (hs:s ≠ []) {k lo:Nat} (hk:k<ts.length) (hl:lo<=k+1):(ak ts s k).In ts.length lo:=by
 unfold ak
 split
 ·rename_i hc
  have:=hg.more k hk fun h0=>hs (by rw [<- hc,hg.fin k hk h0])
  exact rC hl (by omega)
 ·exact kH
theorem vv (hg:Good ts) (ask:Bool) {k lo:Nat} (hk:k<ts.length) (hl:lo<=k+1):(bG ts ask k).In ts.length lo:=by
 obtain ⟨out,hx,hb⟩:=(vo (ask:=ask) hg (ts.length - k) k (Nat.le_refl _) hk).2 0 1 (by omega) (by omega);rw [mF hx];cases out with
 | bad j e=>exact kH
 | ok a k1 =>
  have h1:k<k1:=hx.grows _ _ rfl;have h2:=hb _ _ rfl;show (if 12<a.depth then Out.bad k 4 else Out.ok a k1).In ts.length lo
  split
  ·exact kH
  ·exact rC (by omega) h2
theorem sj (hg:Good ts) (kind r:Nat) {k lo:Nat} (hk:k<ts.length) (hl:lo<=k+1):(bJ ts kind r k).In ts.length lo:=by
 unfold bJ;refine fD (fU hg (by simp) hk hl) fun _ k h1 h2=>fD ?_ fun x k h1 h2=>fD ?_ fun a k h1 h2=>fD ?_ fun b k h1 h2=>fD (pW hg h2 (by omega)) fun m k h1 h2=>fD (fU hg (by simp) h2 (by omega)) fun _ k h1 h2=>pV (fU hg (by simp) h2 (by omega))
 ·split
  ·exact rC h1 h2
  ·exact fD (pW hg h2 (by omega)) fun x k h1 h2=>pV (fU hg (by simp) h2 (by omega))
 ·split
  ·exact rC h1 h2
  ·exact fD (vv hg false h2 (by omega)) fun x k h1 h2=>pV (fU hg (by simp) h2 (by omega))
 ·split
  ·exact fD (vv hg false h2 (by omega)) fun x k h1 h2=>pV (fU hg (by simp) h2 (by omega))
  ·exact rC h1 h2
theorem TS (hg:Good ts) (r:Nat) {k lo:Nat} (hk:k<ts.length) (hl:lo<=k+1):(qD ts r k).In ts.length lo:=by
 have hm:∀ s:List UInt8,s ≠ []->aj ts k=s->k+1<ts.length:=fun s hs hc=>hg.more k hk fun h0=>hs (by rw [<- hc,hg.fin k hk h0])
 unfold qD
 split
 ·rename_i hc;exact sj hg 2 r (hm _ (by decide) hc) (by omega)
 split
 ·rename_i hc;exact sj hg 4 r (hm _ (by decide) hc) (by omega)
 split
 ·rename_i hc;exact sj hg 5 r (hm _ (by decide) hc) (by omega)
 split
 ·rename_i hc;exact sj hg 6 r (hm _ (by decide) hc) (by omega)
 exact fD (vv hg false hk hl) fun x k h1 h2=>pV (fU hg (by simp) h2 (by omega))
theorem Dh (hg:Good ts) {k lo:Nat} (hk:k<ts.length) (hl:lo<=k+1):(bH ts k).In ts.length lo:=by
 have hm:∀ s:List UInt8,s ≠ []->aj ts k=s->k+1<ts.length:=fun s hs hc=>hg.more k hk fun h0=>hs (by rw [<- hc,hg.fin k hk h0])
 unfold bH
 split
 ·rename_i hc;exact sj hg 3 0 (hm _ (by decide) hc) (by omega)
 split
 ·rename_i hc;exact sj hg 7 0 (hm _ (by decide) hc) (by omega)
 exact fD (pW hg hk hl) fun r k h1 h2=>fD (fU hg (by simp) h2 (by omega)) fun _ k h1 h2=>Df (TS hg r h2 (by omega)) h1
theorem vz (hg:Good ts) {k lo:Nat} (hk:k<ts.length) (hl:lo<=k+1):(iA ts k).In ts.length lo:=by
 unfold iA;exact fD (fU hg (by simp) hk hl) fun _ k h1 h2=>fD (vv hg false h2 (by omega)) fun a k h1 h2=>pV (fU hg (by simp) h2 (by omega))
theorem mM (hg:Good ts):∀ (n k:Nat),ts.length - k<=n->k<ts.length->∀ d,(∃ out,Bx ts (.block d) k out/\out.In ts.length (k+1))/\(∃ out,Bx ts (.stmt d) k out/\out.In ts.length (k+1)/\∀ b k1,out = .ok b k1->∃ m t e,b = .cons m t e .nil) /\
  ∀ q,∃ out,Bx ts (.more d q) k out/\out.In ts.length (k+1):=by
 intro n;induction n with
 | zero=>intro k h1 h2;omega
 | succ n ih =>
  intro k h1 h2 d;have hm:∀ s:List UInt8,s ≠ []->aj ts k=s->k+1<ts.length:=fun s hs hc=>hg.more k h2 fun h0=>hs (by rw [<- hc,hg.fin k h2 h0])
  have hst:∃ out,Bx ts (.stmt d) k out/\out.In ts.length (k+1)/\∀ b k1,out = .ok b k1->∃ m t e,b = .cons m t e .nil:=by
   by_cases hq:aj ts k=uj \/ aj ts k=eB
   ·have hk1:k+1<ts.length:=hq.elim (hm _ (by decide)) (hm _ (by decide))
    have hc:=vz hg hk1 (lo:=k+1) (by omega);cases hcc:iA ts (k+1) with
    | bad j er=>exact ⟨_,.gJ hq hcc,kH,fun _ _ h=>by cases h⟩
    | ok a k1 =>
     obtain ⟨l1,l2⟩:=hc a k1 hcc;obtain ⟨o1,hb1,hi1⟩:=(ih k1 (by omega) l2 (d+1)).1;cases o1 with
     | bad j er=>exact ⟨_,.gK hq hcc hb1,kH,fun _ _ h=>by cases h⟩
     | ok t k2 =>
      obtain ⟨l3,l4⟩:=hi1 t k2 rfl;rcases hq with hq | hq
      ·by_cases he:aj ts k2=jd
       ·have hk3:k2+1<ts.length:=hg.more k2 l4 fun h0=>by rw [hg.fin k2 l4 h0] at he;cases he
        obtain ⟨o2,hb2,hi2⟩:=(ih (k2+1) (by omega) hk3 (d+1)).1;refine ⟨_,.other hq hcc hb1 he hb2,pV (Df hi2 (by omega)),fun b k1 h=>?_⟩;cases o2 with
        | bad j er=>cases h
        | ok e k4=>injection h with h _;exact ⟨_,_,_,h.symm⟩
       ·exact ⟨_,.cond hq hcc hb1 he,rC (by omega) l4,fun b k1 h=>by injection h with h _;exact ⟨_,_,_,h.symm⟩⟩
      ·exact ⟨_,.loop hq hcc hb1,rC (by omega) l4,fun b k1 h=>by injection h with h _;exact ⟨_,_,_,h.symm⟩⟩
   ·refine ⟨_,.flat (fun h=>hq (.inl h)) (fun h=>hq (.inr h)),pV (Dh hg h2 (Nat.le_refl _)),fun b k1 h=>?_⟩
    cases hf:bH ts k with
    | bad j er=>rw [hf] at h;cases h
    | ok m k1=>rw [hf] at h;injection h with h _;exact ⟨_,_,_,h.symm⟩
  have hmo:∀ q,∃ out,Bx ts (.more d q) k out/\out.In ts.length (k+1):=by
   intro q;by_cases hc:aj ts k=[125]
   ·exact ⟨_,.close hc,rC (Nat.le_refl _) (hm _ (by simp) hc)⟩
   ·obtain ⟨out,hs,hi,hf⟩:=hst
    cases out with
    | bad j er=>exact ⟨_,.nN hc hs,kH⟩
    | ok b k1 =>
     obtain ⟨m,t,e,rfl⟩:=hf _ _ rfl;obtain ⟨l1,l2⟩:=hi _ _ rfl;obtain ⟨o2,hb2,hi2⟩:=(ih k1 (by omega) l2 d).2.2 (q.snoc m t e);exact ⟨_,.step hc hs hb2,Df hi2 (by omega)⟩
  refine ⟨?_,hst,hmo⟩;by_cases hc:aj ts k=[123]
  ·by_cases hd:8<d
   ·exact ⟨_,.deep hc hd,kH⟩
   ·have hk1:=hm _ (by simp) hc
    obtain ⟨o,hb,hi⟩:=(ih (k+1) (by omega) hk1 d).2.2 .nil;exact ⟨_,.block hc (by omega) hb,Df hi (by omega)⟩
  ·exact ⟨_,.none hc,kH⟩
theorem Di (hg:Good ts) {k lo:Nat} (hk:k<ts.length) (hl:lo<=k+1):(dC ts k).In ts.length lo:=by
 unfold dC;refine fD (pW hg hk hl) fun x k h1 h2=>fD (fU hg (by simp) h2 (by omega)) fun _ k h1 h2=>fD ?_ fun n k h1 h2=>pV (fU hg (by simp) h2 (by omega))
 split
 ·rename_i hq
  have:=hg.more k h2 (by omega);exact rC (by omega) (by omega)
 ·exact kH
theorem G7 (hg:Good ts) (l:List (Nat × Nat)):∀ (n k:Nat),ts.length - k<=n->k<ts.length->∀ q,∃ out,Tx ts (.threads l q) k out:=by
 intro n;induction n with
 | zero=>intro k h1 h2;omega
 | succ n ih =>
  intro k h1 h2 q;by_cases ht:aj ts k=eT
  ·by_cases hq:4<=q.length
   ·exact ⟨_,.many ht hq⟩
   ·have hk1:k+1<ts.length:=hg.more k h2 fun h0=>by rw [hg.fin k h2 h0] at ht;cases ht
    obtain ⟨o,hb,hi⟩:=(mM hg _ (k+1) (Nat.le_refl _) hk1 1).1;cases o with
    | bad j er=>exact ⟨_,.kF ht (by omega) hb⟩
    | ok b k1 =>
     obtain ⟨l1,l2⟩:=hi _ _ rfl;obtain ⟨out,hx⟩:=ih k1 (by omega) l2 (q ++ [b]);exact ⟨_,.thread ht (by omega) hb hx⟩
  ·exact ⟨_,.ask ht⟩
theorem Nh (hg:Good ts):∀ (n k:Nat),ts.length - k<=n->k<ts.length->∀ l,∃ out,Tx ts (.inits l) k out:=by
 intro n;induction n with
 | zero=>intro k h1 h2;omega
 | succ n ih =>
  intro k h1 h2 l;by_cases hi:aj ts k=nM
  ·have hk1:k+1<ts.length:=hg.more k h2 fun h0=>by rw [hg.fin k h2 h0] at hi;cases hi
   have hin:=Di hg hk1 (lo:=k+1) (by omega);cases hx:dC ts (k+1) with
   | bad j er=>exact ⟨_,.pQ hi hx⟩
   | ok x k1 =>
    obtain ⟨l1,l2⟩:=hin _ _ hx;obtain ⟨out,ho⟩:=ih k1 (by omega) l2 (l ++ [x]);exact ⟨_,.init hi hx ho⟩
  ·obtain ⟨out,ho⟩:=G7 hg l _ k (Nat.le_refl _) h2 []
   exact ⟨_,.inited hi ho⟩
end
end Go.Proofs.YtaanhmndeobgbaaGreatDoor.fT
