/- Part 28 of the proof: what is used of the texts PtlL. -/
import Derived.Test.YtaanhmndeobgbaaGreatDoorGC6
set_option maxRecDepth 100000
set_option maxHeartbeats 2000000
namespace Go.Proofs.YtaanhmndeobgbaaGreatDoor.fT
open Go.RowKit Mem Go.Proofs.YtaanhmndeobgbaaGreatDoor.Expr Prog Go.Lib ae
open Go.Proofs.YtaanhmndeobgbaaGreatDoor.Row (Lay cellsOf bO dQ mU eX cz eY dM ax aO)
open Lex (Tok cO jA)
def BQ (ts:List Lex.Tok) (gp op c:Nat) (ask:Bool) (k:Nat):Prop:=∀ (oo:Nat) (out:Out Ex) (w:World),oo<=12->Px ts ask (.part oo) k out->dK w (.slice (some ⟨gp,op,none⟩) ts.length c) ts->k<ts.length ->
 Calls Tryz.prog 88 #[.agg #[.slice (some ⟨gp,op,none⟩) ts.length c,.int .i64 (k:Nat),.int .i64 (0:Nat),.int .i64 (0:Nat)],.bool ask,.int .i64 (oo:Nat)] w (bY (.slice (some ⟨gp,op,none⟩) ts.length c) ts.length (ts.length+1 - k) out w)
def tQ (ts:List Lex.Tok) (gp op c:Nat) (ask:Bool) (least k:Nat):Prop:=∀ (oo:Nat) (out:Out Ex) (w:World),oo<=12->Px ts ask (.ops oo least) k out->dK w (.slice (some ⟨gp,op,none⟩) ts.length c) ts->k<ts.length ->
 Calls Tryz.prog 56 #[.agg #[.slice (some ⟨gp,op,none⟩) ts.length c,.int .i64 (k:Nat),.int .i64 (0:Nat),.int .i64 (0:Nat)],.int .i64 (least:Nat),.bool ask,.int .i64 (oo:Nat)] w (bY (.slice (some ⟨gp,op,none⟩) ts.length c) ts.length (ts.length+1 - k) out w)
theorem uy (s:List UInt8) (x:List UInt8):((str s).toList == x)=decide (s=x):=by
 have h:=str_eq s x
 rwa [show (str x).toList=x by simp [str]] at h
theorem NV (s:List UInt8) (x:List UInt8):((str s).toList != x) = !decide (s=x):=by rw [bne,uy]
theorem sI {ts:List Lex.Tok} (hG:gM ts) {k:Nat} {s:List UInt8} (hs:∃ c r,s=c :: r/\cO c=false) (h:aj ts k=s):aZ ts 3 k 0=s:=by
 have h3:=gW hG hs h;exact (vF (by obtain ⟨c,r,rfl,_⟩:=hs;simp)).2 ⟨h3,h⟩
theorem nP {ts:List Lex.Tok} {k:Nat} {s:List UInt8} (hs:s ≠ []) (h:aj ts k≠s):aZ ts 3 k 0≠s:=fun e=>h ((vF hs).1 e).2
theorem Dy {ts:List Lex.Tok} {k:Nat} (h:qw ts k=0):aj ts k ≠ [33]/\aj ts k ≠ [45]:=by
 unfold qw at h;exact ⟨fun e=>by rw [e] at h;revert h;decide,fun e=>by rw [e] at h;revert h;decide⟩
theorem JA {ts:List Lex.Tok} {k:Nat} (h:qw ts k≠0):(qw ts k=13/\aj ts k=[33]) \/ (qw ts k=14/\aj ts k=[45]):=by
 have h2:=(mR (s:=aj ts k) (n:=1) h).2;rcases Nv h with e | e
 ·exact .inl ⟨e,by unfold qw at e;rw [e] at h2;exact h2.symm⟩
 ·exact .inr ⟨e,by unfold qw at e;rw [e] at h2;exact h2.symm⟩
theorem aP.close {v:Value} {n:Nat} {ts:List Lex.Tok} {o:Out Ex} {u:Value} (h:aP v n (o.bind fun _ k=>ak ts [41] k) u):aP v n (o.close ts) u:=by
 cases o with
 | bad j e=>exact h
 | ok a k =>
  have h:aP v n (ak ts [41] k) u:=h;show aP v n ((ak ts [41] k).map fun _=>a) u
  exact h.yf
def Hu (B q:Nat):Value->World->Prop:=fun u W=>∃ g,u = .slice (some ⟨g,0,none⟩) 1 1/\B<=g/\Sits W g 166 #[.int .u8 4,.int .u8 (q:Nat),.int .u64 0,.int .u8 0,.int .u8 0,.int .u8 0]
def ZT (B:Nat) (l:List It):Value->World->Prop:=fun u W=>dF B W u l
theorem FC (B q:Nat):ll qa (Hu B q):=fun _ _ _ ⟨g,e,hB,h⟩ hb=>⟨g,e,hB,h.below hb h.lt⟩
theorem FD (B:Nat) (l:List It):ll qa (ZT B l):=fun _ _ _ h hb=>dF.below h hb
theorem NW:(Tryz.prog.info? 166).map (fun i=>(i.zero,i.size,i.bytes))=some (some (.agg #[.int .u8 0,.int .u8 0,.int .u64 0,.int .u8 0,.int .u8 0,.int .u8 0]),6,24):=by kernel_rfl
theorem vH:mU Tryz.prog 35 166 6 24:=eX Tryz.underlying35 NW (by rfl) (by decide)
theorem KR {ts:List Lex.Tok} (hG:gM ts) (gp op c k oo:Nat) (ask:Bool) (w:World) (hP:dK w (.slice (some ⟨gp,op,none⟩) ts.length c) ts) (hk:k<ts.length) (h1:qw ts k=0) (h2:aj ts k ≠ [40]) :
  Calls Tryz.prog 88 #[.agg #[.slice (some ⟨gp,op,none⟩) ts.length c,.int .i64 (k:Nat),.int .i64 (0:Nat),.int .i64 (0:Nat)],.bool ask,.int .i64 (oo:Nat)] w (bY (.slice (some ⟨gp,op,none⟩) ts.length c) ts.length (ts.length+1 - k) (fo ts ask k) w):=by
 have hn:ts.length<=5000:=by have:=hG.few;omega
 have HT:=hid (fun W (hl:Below w.heap.size w W)=>bI _ ts k 0 0 3 W (hP.below hl) (fun _=>hk));obtain ⟨HL,HA,HZ⟩:=iD w (some ⟨gp,op,none⟩) ts.length c k 0 0;have HK:=hid hk;have HN:=hid hn;have HP:=hid hP;have o0:(0:Int)<=(oo:Int):=by omega
 have k0:(0:Int)<=(k:Int):=by omega
 have k5:(k:Int)<=5000:=by omega
 have b1:((str (aZ ts 3 k 0)).toList != [33])=true:=by rw [NV,decide_eq_false (nP (by simp) (Dy h1).1)];rfl
 have b2:((str (aZ ts 3 k 0)).toList != [45])=true:=by rw [NV,decide_eq_false (nP (by simp) (Dy h1).2)];rfl
 have b3:((str (aZ ts 3 k 0)).toList != [40])=true:=by rw [NV,decide_eq_false (nP (by simp) h2)];rfl
 have b4:((str (aZ ts 3 k 0)).toList == [33])=false:=by rw [uy,decide_eq_false (nP (by simp) (Dy h1).1)]
 have b5:((str (aZ ts 3 k 0)).toList == [45])=false:=by rw [uy,decide_eq_false (nP (by simp) (Dy h1).2)]
 have b6:((str (aZ ts 3 k 0)).toList == [40])=false:=by rw [uy,decide_eq_false (nP (by simp) h2)]
 have Ws:=hid (fun W (hl:Below w.heap.size w W)=>NU hG gp op c k (ts.length+1 - k) ask W (hP.below hl) hk (by omega));generalize str (aZ ts 3 k 0)=S at HT b1 b2 b3 b4 b5 b6;clear hP hk hn h1 h2;go_enter Tryz.func88,Tryz.ntmps88;go_upto_region 1 with (fail)
 change Code.wp _ _ _ _ (bM w (some ⟨gp,op,none⟩) ts.length c k 0 0);generalize bM w (some ⟨gp,op,none⟩) ts.length c k 0 0=w0 at HL HA HZ ⊢;generalize hgb:w.heap.size=gb at HA HZ ⊢;have di:=hid hgb;clear hgb;have a0:=ag HA.out;go_wp2_with fail
 refine (HT.out _ HL.out).mono ?_;rintro x w1 ⟨rfl,hb⟩;have HA:=hid (HA.out.below hb HA.out.lt);have HZ:=hid (HZ.out.below hb HZ.out.lt);have HL:=hid (HL.out.trans (hb.mono HL.out.size));clear hb a0 HT;have a0:=ag HA.out;have eZ:=aL HA.out;have z0:=ag HZ.out;have kX:=aL HZ.out;go_wp2_with fail
 refine (Ws.out _ HL.out).mono ?_;rintro x w3 ⟨lv,l,u2,rfl,h1,h2,h3,h4,hb⟩;obtain ⟨k2,j2,e2,rfl⟩:=h1.cells;have h2:=h2.low HL.out.size;have dO:=hid h1;have HIT:=hid (⟨h2,h3,h4⟩:_/\_/\_);have HZ:=hid (HZ.out.below hb HZ.out.lt);have HL:=hid (HL.out.trans (hb.mono HL.out.size));clear h1 h2 h3 h4 a0 eZ z0 kX;have HB3:=hid hb;clear hb;have z0:=ag HZ.out;have kX:=aL HZ.out;go_wp2_with fail
 refine oQ (oU.put HZ.out HL.out (by have:=di.out;omega) (.slice (some ⟨gp,op,none⟩) ts.length c) (k2) (j2) (e2)) ?_;intro W9 F;have HI0:=hid (F.out.i HIT.out.1);have s0:=ag F.out.s;exact bodyPost_ret (v:=.tuple #[lv,.agg #[.slice (some ⟨gp,op,none⟩) ts.length c,.int .i64 (k2:Nat),.int .i64 (j2:Nat),.int .i64 (e2:Nat)]]) (by simp [results,Tryz.results88,go_sem,s0]) rfl ⟨_,l,_,rfl,dO.out,HI0.out,HIT.out.2.1,HIT.out.2.2,F.out.l⟩
theorem wV {ts:List Lex.Tok} (hG:gM ts) (gp op c k oo:Nat) (ask:Bool) (w:World) (hP:dK w (.slice (some ⟨gp,op,none⟩) ts.length c) ts) (hk:k<ts.length) (s0:UInt8) (hs:s0=33 \/ s0=45 \/ s0=40) (h2:aj ts k=[s0]) (h3:oo=12) :
  Calls Tryz.prog 88 #[.agg #[.slice (some ⟨gp,op,none⟩) ts.length c,.int .i64 (k:Nat),.int .i64 (0:Nat),.int .i64 (0:Nat)],.bool ask,.int .i64 (oo:Nat)] w (bY (.slice (some ⟨gp,op,none⟩) ts.length c) ts.length (ts.length+1 - k) (.bad k 4) w):=by
 have hn:ts.length<=5000:=by have:=hG.few;omega
 have HT:=hid (fun W (hl:Below w.heap.size w W)=>bI _ ts k 0 0 3 W (hP.below hl) (fun _=>hk));obtain ⟨HL,HA,HZ⟩:=iD w (some ⟨gp,op,none⟩) ts.length c k 0 0;have HK:=hid hk;have HN:=hid hn;have HP:=hid hP;have o0:(0:Int)<=(oo:Int):=by omega
 have k0:(0:Int)<=(k:Int):=by omega
 have k5:(k:Int)<=5000:=by omega
 have hx:=sI hG (s:=[s0]) ⟨s0,[],rfl,by rcases hs with rfl | rfl | rfl <;> decide⟩ h2;rw [hx] at HT;have HT:Hid (∀ W,Below w.heap.size w W->Calls Tryz.prog 14 #[.agg #[.slice (some ⟨gp,op,none⟩) ts.length c,.int .i64 (k:Nat),.int .i64 (0:Nat),.int .i64 (0:Nat)],.int .u8 (3:Nat)] W fun x w'=>Made (.returned (.string ⟨#[s0]⟩)) W x w'):=HT;have VY:(12:Int)<=(oo:Int):=by omega
 have tO:=hid (show ∀ W,Calls Tryz.prog 17 #[.agg #[.slice (some ⟨gp,op,none⟩) ts.length c,.int .i64 (k:Nat),.int .i64 0,.int .i64 0],.int .i64 (k:Nat),.int .i64 4] W (Made (.returned (.agg #[.slice (some ⟨gp,op,none⟩) ts.length c,.int .i64 (k:Nat),.int .i64 (k:Nat),.int .i64 4])) W) from fun W=>fZ (some ⟨gp,op,none⟩) ts.length c k 0 0 k 4 W);clear hP hk hn hx h2 h3;rcases hs with rfl | rfl | rfl
 all_goals
  go_enter Tryz.func88,Tryz.ntmps88;go_upto_region 1 with (fail)
  change Code.wp _ _ _ _ (bM w (some ⟨gp,op,none⟩) ts.length c k 0 0);generalize bM w (some ⟨gp,op,none⟩) ts.length c k 0 0=w0 at HL HA HZ ⊢;generalize hgb:w.heap.size=gb at HA HZ ⊢;have di:=hid hgb;clear hgb;have a0:=ag HA.out;go_wp2_with fail
  refine (HT.out _ HL.out).mono ?_;rintro x w1 ⟨rfl,hb⟩;have HA:=hid (HA.out.below hb HA.out.lt);have HZ:=hid (HZ.out.below hb HZ.out.lt);have HL:=hid (HL.out.trans (hb.mono HL.out.size));clear hb a0 HT;have a0:=ag HA.out;have eZ:=aL HA.out;have z0:=ag HZ.out;have kX:=aL HZ.out;go_wp2_with fail
  refine (tO.out _).mono ?_;rintro x w3 ⟨rfl,hb⟩;have HZ:=hid (HZ.out.below hb HZ.out.lt);have HL:=hid (HL.out.trans (hb.mono HL.out.size));clear hb a0 eZ z0 kX;have z0:=ag HZ.out;have kX:=aL HZ.out;go_wp2_with fail
  refine oQ (oU.put HZ.out HL.out (by have:=di.out;omega) (.slice (some ⟨gp,op,none⟩) ts.length c) (k) (k) (4)) ?_;intro W9 F;have s0:=ag F.out.s;exact bodyPost_ret (v:=.tuple #[.slice none 0 0,.agg #[.slice (some ⟨gp,op,none⟩) ts.length c,.int .i64 (k:Nat),.int .i64 (k:Nat),.int .i64 (4:Nat)]]) (by simp [results,Tryz.results88,go_sem,s0]) rfl ⟨_,[],_,rfl,⟨k,rfl,by decide,HK.out,HK.out⟩,dF.nil _ _,(fun _ _ h=>by cases h),Nat.zero_le _,F.out.l⟩
theorem NY {ts:List Lex.Tok} (hG:gM ts) (gp op c k oo:Nat) (ask:Bool) (w:World) (hP:dK w (.slice (some ⟨gp,op,none⟩) ts.length c) ts) (hk:k<ts.length) (ho:oo<=12) (h2:aj ts k=[40]) (h3:oo≠12) {o2:Out Ex} (hx2:Px ts ask (.ops (oo+1) 1) (k+1) o2) (IL:tQ ts gp op c ask 1 (k+1)) :
  Calls Tryz.prog 88 #[.agg #[.slice (some ⟨gp,op,none⟩) ts.length c,.int .i64 (k:Nat),.int .i64 (0:Nat),.int .i64 (0:Nat)],.bool ask,.int .i64 (oo:Nat)] w (bY (.slice (some ⟨gp,op,none⟩) ts.length c) ts.length (ts.length+1 - k) (o2.close ts) w):=by
 have hn:ts.length<=5000:=by have:=hG.few;omega
 have HT:=hid (fun W (hl:Below w.heap.size w W)=>bI _ ts k 0 0 3 W (hP.below hl) (fun _=>hk));obtain ⟨HL,HA,HZ⟩:=iD w (some ⟨gp,op,none⟩) ts.length c k 0 0;have HK:=hid hk;have HN:=hid hn;have HP:=hid hP;have o0:(0:Int)<=(oo:Int):=by omega
 have k0:(0:Int)<=(k:Int):=by omega
 have k5:(k:Int)<=5000:=by omega
 have hx:=sI hG (s:=[40]) ⟨40,[],rfl,by decide⟩ h2;rw [hx] at HT;have HT:Hid (∀ W,Below w.heap.size w W->Calls Tryz.prog 14 #[.agg #[.slice (some ⟨gp,op,none⟩) ts.length c,.int .i64 (k:Nat),.int .i64 (0:Nat),.int .i64 (0:Nat)],.int .u8 (3:Nat)] W fun x w'=>Made (.returned (.string ⟨#[40]⟩)) W x w'):=HT;have VY:¬ (12:Int)<=(oo:Int):=by omega
 have hkn:k+1<ts.length:=hG.good.more k hk (by show au ts k≠0;rw [gW hG ⟨40,[],rfl,by decide⟩ h2];decide);have Jd:=hid (show ∀ W,Below w.heap.size w W->Calls Tryz.prog 56 #[.agg #[.slice (some ⟨gp,op,none⟩) ts.length c,.int .i64 ((k:Int)+1),.int .i64 (0:Nat),.int .i64 (0:Nat)],.int .i64 1,.bool ask,.int .i64 ((oo:Int)+1)] W (bY (.slice (some ⟨gp,op,none⟩) ts.length c) ts.length (ts.length+1 - (k+1)) o2 W) from fun W hl=>IL (oo+1) o2 W (by omega) hx2 (hP.below hl) hkn);have wy:=hid (fun (W:World) (u:Value) (hl:Below w.heap.size w W) (h:aP (.slice (some ⟨gp,op,none⟩) ts.length c) ts.length o2 u)=>bF hG [41] ⟨41,[],rfl,by decide⟩ W (hP.below hl) h);clear hP hk hn ho hx h2 h3 hx2 IL hkn;go_enter Tryz.func88,Tryz.ntmps88;go_upto_region 1 with (fail)
 change Code.wp _ _ _ _ (bM w (some ⟨gp,op,none⟩) ts.length c k 0 0);generalize bM w (some ⟨gp,op,none⟩) ts.length c k 0 0=w0 at HL HA HZ ⊢;generalize hgb:w.heap.size=gb at HA HZ ⊢;have di:=hid hgb;clear hgb;have a0:=ag HA.out;go_wp2_with fail
 refine (HT.out _ HL.out).mono ?_;rintro x w1 ⟨rfl,hb⟩;have HA:=hid (HA.out.below hb HA.out.lt);have HZ:=hid (HZ.out.below hb HZ.out.lt);have HL:=hid (HL.out.trans (hb.mono HL.out.size));clear hb a0 HT;have a0:=ag HA.out;have eZ:=aL HA.out;have z0:=ag HZ.out;have kX:=aL HZ.out;go_wp2_with fail
 refine hC (R:=fun V=>Hid (Below w.heap.size w V)/\Hid (Sits V (gb+1) 57 #[.slice none 0 0,.int .i64 0,.int .i64 0,.int .i64 0])) ⟨HL.out.setCell (by have:=di.out;simp;omega) _,HZ.out.far (by simp) _⟩ ?_;rintro w2 ⟨HL,HZ⟩;clear a0 eZ z0 kX;refine (Jd.out _ HL.out).mono ?_;rintro x w3 ⟨lv,l,u2,rfl,h1,h2,h3,h4,hb⟩;obtain ⟨k2,j2,e2,rfl⟩:=h1.cells;have h2:=h2.low HL.out.size;have dO:=hid h1;have HIT:=hid (⟨h3,h4⟩:_/\_);have gX:=hid h2;have HZ:=hid (HZ.out.below hb HZ.out.lt);have HL:=hid (HL.out.trans (hb.mono HL.out.size));clear h1 h2 h3 h4 hb;go_upto_region 9 with (fail)
 refine hA ?_;intro w4 hlow gD;have HZ:=hid (HZ.out.below hlow HZ.out.lt);have HL:=hid (HL.out.trans (hlow.mono HL.out.size));have gX:=hid (gX.out.below hlow);generalize w3.heap.size=g10 at gD ⊢;clear hlow;have y0:=ag gD.out;go_wp2_with fail
 refine (wy.out _ _ HL.out dO.out).mono ?_;rintro x w5 ⟨u3,rfl,h1,hb⟩;obtain ⟨k3,j3,e3,rfl⟩:=h1.cells;have Wt:=hid h1;have HZ:=hid (HZ.out.below hb HZ.out.lt);have HL:=hid (HL.out.trans (hb.mono HL.out.size));have gX:=hid (gX.out.below hb);clear h1 hb y0;have z0:=ag HZ.out;have kX:=aL HZ.out;go_wp2_with fail
 refine oQ (oU.put HZ.out HL.out (by have:=di.out;omega) (.slice (some ⟨gp,op,none⟩) ts.length c) (k3) (j3) (e3)) ?_;intro W9 F;have HI0:=hid (F.out.i gX.out);have s0:=ag F.out.s;exact bodyPost_ret (v:=.tuple #[lv,.agg #[.slice (some ⟨gp,op,none⟩) ts.length c,.int .i64 (k3:Nat),.int .i64 (j3:Nat),.int .i64 (e3:Nat)]]) (by simp [results,Tryz.results88,go_sem,s0]) rfl ⟨_,l,_,rfl,Wt.out.close,HI0.out,(fun a q h=>by obtain ⟨q0,h,_⟩:=vk h;exact HIT.out.1 a q0 h),by have:=HIT.out.2;omega,F.out.l⟩
theorem FE {ts:List Lex.Tok} (hG:gM ts) (gp op c k oo:Nat) (ask:Bool) (w:World) (hP:dK w (.slice (some ⟨gp,op,none⟩) ts.length c) ts) (hk:k<ts.length) (ho:oo<=12) (q:Nat) (s0:UInt8) (hs:q=13/\s0=33 \/ q=14/\s0=45) (h2:aj ts k=[s0]) (h3:oo≠12) {o2:Out Ex} (hx2:Px ts ask (.part (oo+1)) (k+1) o2) (IP:BQ ts gp op c ask (k+1)) :
  Calls Tryz.prog 88 #[.agg #[.slice (some ⟨gp,op,none⟩) ts.length c,.int .i64 (k:Nat),.int .i64 (0:Nat),.int .i64 (0:Nat)],.bool ask,.int .i64 (oo:Nat)] w (bY (.slice (some ⟨gp,op,none⟩) ts.length c) ts.length (ts.length+1 - k) (o2.map (.one q)) w):=by
 have hn:ts.length<=5000:=by have:=hG.few;omega
 have HT:=hid (fun W (hl:Below w.heap.size w W)=>bI _ ts k 0 0 3 W (hP.below hl) (fun _=>hk));obtain ⟨HL,HA,HZ⟩:=iD w (some ⟨gp,op,none⟩) ts.length c k 0 0;have HK:=hid hk;have HN:=hid hn;have HP:=hid hP;have o0:(0:Int)<=(oo:Int):=by omega
 have k0:(0:Int)<=(k:Int):=by omega
 have k5:(k:Int)<=5000:=by omega
 have hx:=sI hG (s:=[s0]) ⟨s0,[],rfl,by rcases hs with ⟨_,rfl⟩ | ⟨_,rfl⟩ <;> decide⟩ h2;rw [hx] at HT;have HT:Hid (∀ W,Below w.heap.size w W->Calls Tryz.prog 14 #[.agg #[.slice (some ⟨gp,op,none⟩) ts.length c,.int .i64 (k:Nat),.int .i64 (0:Nat),.int .i64 (0:Nat)],.int .u8 (3:Nat)] W fun x w'=>Made (.returned (.string ⟨#[s0]⟩)) W x w'):=HT;have VY:¬ (12:Int)<=(oo:Int):=by omega
 have hkn:k+1<ts.length:=hG.good.more k hk (by show au ts k≠0;rw [gW hG ⟨s0,[],rfl,by rcases hs with ⟨_,rfl⟩ | ⟨_,rfl⟩ <;> decide⟩ h2];decide);have NT:=hid hkn;have Jd:=hid (show ∀ W,Below w.heap.size w W->Calls Tryz.prog 88 #[.agg #[.slice (some ⟨gp,op,none⟩) ts.length c,.int .i64 ((k:Int)+1),.int .i64 (0:Nat),.int .i64 (0:Nat)],.bool ask,.int .i64 ((oo:Int)+1)] W (bY (.slice (some ⟨gp,op,none⟩) ts.length c) ts.length (ts.length+1 - (k+1)) o2 W) from fun W hl=>IP (oo+1) o2 W (by omega) hx2 (hP.below hl) hkn);clear hP hk hn ho hx h2 h3 hx2 IP hkn;rcases hs with ⟨hq,rfl⟩ | ⟨hq,rfl⟩
 all_goals
  have HQ:=hid hq;clear hq;go_enter Tryz.func88,Tryz.ntmps88;go_upto_region 1 with (fail)
  change Code.wp _ _ _ _ (bM w (some ⟨gp,op,none⟩) ts.length c k 0 0);generalize bM w (some ⟨gp,op,none⟩) ts.length c k 0 0=w0 at HL HA HZ ⊢;generalize hgb:w.heap.size=gb at HA HZ ⊢;have di:=hid hgb;clear hgb;have a0:=ag HA.out;go_wp2_with fail
  refine (HT.out _ HL.out).mono ?_;rintro x w1 ⟨rfl,hb⟩;have HA:=hid (HA.out.below hb HA.out.lt);have HZ:=hid (HZ.out.below hb HZ.out.lt);have HL:=hid (HL.out.trans (hb.mono HL.out.size));clear hb a0 HT;have a0:=ag HA.out;have eZ:=aL HA.out;have z0:=ag HZ.out;have kX:=aL HZ.out;go_wp2_with fail
  refine hC (R:=fun V=>Hid (Below w.heap.size w V)/\Hid (Sits V (gb+1) 57 #[.slice none 0 0,.int .i64 0,.int .i64 0,.int .i64 0])) ⟨HL.out.setCell (by have:=di.out;simp;omega) _,HZ.out.far (by simp) _⟩ ?_;rintro w2 ⟨HL,HZ⟩;clear a0 eZ z0 kX;refine (Jd.out _ HL.out).mono ?_;rintro x w3 ⟨lv,l,u2,rfl,h1,h2,h3,h4,hb⟩;obtain ⟨k2,j2,e2,rfl⟩:=h1.cells;obtain ⟨rl,dl,rfl,h2,_⟩:=h2;have dO:=hid h1;have HIT:=hid (⟨h3,h4⟩:_/\_);have gX:=hid h2;have HZ:=hid (HZ.out.below hb HZ.out.lt);have HL:=hid (HL.out.trans (hb.mono HL.out.size));clear h1 h2 h3 h4 hb;go_upto_region 14 with (fail)
  refine hA ?_;intro w4 hlow gD;have HZ:=hid (HZ.out.below hlow HZ.out.lt);have HL:=hid (HL.out.trans (hlow.mono HL.out.size));have gX:=hid (gX.out.below hlow);generalize w3.heap.size=g10 at gD ⊢;clear hlow;refine oN kE [64,65,66,67,68,69,6] [aV (.int .u8 (q:Nat)),aV (.agg #[.int .u8 4,.int .u8 (q:Nat),.int .u64 0,.int .u8 0,.int .u8 0,.int .u8 0]),Hu w.heap.size q,aV (.slice rl l.length dl),ZT w.heap.size (⟨4,q,0,0,0,0⟩ :: l),aV (.agg #[.slice (some ⟨gp,op,none⟩) ts.length c,.int .i64 (k2:Nat),.int .i64 (j2:Nat),.int .i64 (e2:Nat)]),ZT w.heap.size (⟨4,q,0,0,0,0⟩ :: l)] 100 [] (fun _ _=>True) (fun _ _=>False)
   (by kernel_rfl) (by kernel_rfl) (by kernel_rfl) (by kernel_rfl) (by simp) ?_ ?_ (fun o h=>absurd h (by decide)) (fun p hp=>by cases hp) (fun _ _ _ h=>h.elim) ?_
  ·simp only [List.mem_cons,List.not_mem_nil,or_false,forall_eq_or_imp,forall_eq]
   exact ⟨dx _,dx _,FC _ _,dx _,FD _ _,dx _,FD _ _⟩
  ·intro i oq hi _ hoq A W hW hkk he
   simp only [List.length_cons,List.length_nil,Nat.zero_add,Nat.reduceAdd] at hi
   have hsz:w.heap.size<=W.heap.size:=(HL.out.trans (hW.mono HL.out.size)).size;refine .inl ?_;obtain rfl | rfl | rfl | rfl | rfl | rfl | rfl:i=0 \/ i=1 \/ i=2 \/ i=3 \/ i=4 \/ i=5 \/ i=6:=by omega
   all_goals (injection hoq with hoq;subst hoq)
   ·have t11:A.tmps[11]?.getD undef = .int .u8 (q:Nat):=(hkk 11 (by rfl)).trans (by rw [HQ.out];rfl)
    go_simp
    exact ⟨congrArg (Value.int .u8) (by first | (rw [HQ.out];done) | (rw [HQ.out];rfl)),Below.refl _ _⟩
   ·have t64:A.tmps[64]?.getD undef = .int .u8 (q:Nat):=he 0 (by kernel_rfl)
    go_simp
    exact ⟨rfl,Below.refl _ _⟩
   ·have t65:A.tmps[65]?.getD undef = .agg #[.int .u8 4,.int .u8 (q:Nat),.int .u64 0,.int .u8 0,.int .u8 0,.int .u8 0]:=he 1 (by kernel_rfl)
    have pX:=hid hsz;clear hsz;go_simp
    exact ⟨⟨_,rfl,pX.out,Sits.new _ _ _⟩,(Below.refl _ _).alloc (Nat.le_refl _) _⟩
   ·have t12:A.tmps[12]?.getD undef = .slice rl l.length dl:=hkk 12 (by rfl)
    go_simp
    exact ⟨rfl,Below.refl _ _⟩
   ·obtain ⟨gf,t66,hgf,Su⟩:Hu w.heap.size q (A.tmps[66]?.getD undef) W:=he 2 (by kernel_rfl)
    have t67:A.tmps[67]?.getD undef = .slice rl l.length dl:=he 3 (by kernel_rfl);refine ⟨by kernel_rfl,?_⟩;refine wU vH (.tmp 66) (.tmp 67) rfl (n:=1) (r:=some ⟨gf,0,none⟩) (xs:=oh ⟨4,q,0,0,0,0⟩) ((aU A 66).trans t66) rfl (gq Su) rl l.length dl (cellsOf oh l) ((aU A 67).trans t67) (bO qg l) (gX.out.below hW) (rM l) (by have:=HIT.out.2;have:=HN.out;unfold maxLen;omega) (by have:=HIT.out.2;have:=HN.out;omega) fun r' d' w' hb hc hfr=>?_
    refine ⟨⟨r',d',by rw [List.length_cons,Nat.add_comm],?_,fun g o s he=>(hfr g o s he).elim (fun h=>by rw [<- h] at he;injection he with he;injection he with he;exact he ▸ hgf) fun h=>Nat.le_trans hsz h⟩,hb⟩;rw [show cellsOf oh (⟨4,q,0,0,0,0⟩ :: l)=oh ⟨4,q,0,0,0,0⟩ ++ cellsOf oh l by simp [cellsOf]];exact hc
   ·have t13:A.tmps[13]?.getD undef = .pointer (some ⟨g10,0,none⟩):=hkk 13 (by rfl)
    have h10:=gD.out.below hW gD.out.lt;obtain ⟨h0,h1,h2,h3,hl⟩:=ag h10;go_simp
    exact ⟨rfl,Below.refl _ _⟩
   ·have t68:dF w.heap.size W (A.tmps[68]?.getD undef) _:=he 4 (by kernel_rfl)
    go_simp
    exact ⟨t68,Below.refl _ _⟩
  ·intro xs W hx _ _
   obtain ⟨hW,hx⟩:=hx (by decide);have x6:=hx 6 (by decide);have x5:=hx 5 (by decide);have e5:xs 5 = .agg #[.slice (some ⟨gp,op,none⟩) ts.length c,.int .i64 (k2:Nat),.int .i64 (j2:Nat),.int .i64 (e2:Nat)]:=x5;have hIV:dF w.heap.size W (xs 6) (⟨4,q,0,0,0,0⟩ :: l):=x6;obtain ⟨r6,d6,e6,hl6,hf6⟩:=hIV;have HI6:=hid hl6;have HF6:=hid hf6;have HZ:=hid (HZ.out.below hW HZ.out.lt);have HL:=hid (HL.out.trans (hW.mono HL.out.size));simp only [List.length_cons,List.length_nil,Nat.zero_add,Nat.reduceAdd,List.drop_succ_cons,List.drop_zero,gZ,Act.put,List.setIfInBounds_toArray,e5,e6]
   clear hx x6 x5 e5 e6 hl6 hf6 hW;have z0:=ag HZ.out;have kX:=aL HZ.out;go_wp2_with fail
   have hs:=(aA HZ.out (.slice (some ⟨gp,op,none⟩) ts.length c) (.int .i64 (k2:Nat)) (.int .i64 (j2:Nat)) (.int .i64 (e2:Nat)))
   have hl:=(aG HL.out (g:=(gb+1)) (by have:=di.out;omega) (.slice (some ⟨gp,op,none⟩) ts.length c) (.int .i64 (k2:Nat)) (.int .i64 (j2:Nat)) (.int .i64 (e2:Nat)))
   have iI:dF _ (aF W (gb+1) (.slice (some ⟨gp,op,none⟩) ts.length c) (.int .i64 (k2:Nat)) (.int .i64 (j2:Nat)) (.int .i64 (e2:Nat))) (.slice r6 (l.length+1) d6) (⟨4,q,0,0,0,0⟩ :: l):=dF.put HZ.out ⟨r6,d6,rfl,HI6.out,HF6.out⟩ _ _ _ _;change bodyPost _ _ _ _ _ (aF W (gb+1) (.slice (some ⟨gp,op,none⟩) ts.length c) (.int .i64 (k2:Nat)) (.int .i64 (j2:Nat)) (.int .i64 (e2:Nat)));change Sits (aF W (gb+1) (.slice (some ⟨gp,op,none⟩) ts.length c) (.int .i64 (k2:Nat)) (.int .i64 (j2:Nat)) (.int .i64 (e2:Nat))) _ _ _ at hs;generalize aF W (gb+1) (.slice (some ⟨gp,op,none⟩) ts.length c) (.int .i64 (k2:Nat)) (.int .i64 (j2:Nat)) (.int .i64 (e2:Nat))=W9 at hs hl iI ⊢;obtain ⟨s0,s1,s2,s3,_⟩:=ag hs;have HI0:=hid iI;have HF:=hid hl;clear hs hl iI;exact bodyPost_ret (v:=.tuple #[.slice r6 (l.length+1) d6,.agg #[.slice (some ⟨gp,op,none⟩) ts.length c,.int .i64 (k2:Nat),.int .i64 (j2:Nat),.int .i64 (e2:Nat)]]) (by simp [results,Tryz.results88,go_sem,s0,s1,s2,s3]) rfl ⟨_,⟨4,q,0,0,0,0⟩ :: l,_,rfl,dO.out.yf,HI0.out,(fun a q h=>by obtain ⟨b,h2,rfl⟩:=map_ok h;rw [HIT.out.1 b q h2];rfl),by have:=HIT.out.2;have:=NT.out;rw [List.length_cons];omega,HF.out⟩
theorem NZ {ts:List Lex.Tok} (hG:gM ts) (gp op c k:Nat) (ask:Bool) (IP:BQ ts gp op c ask (k+1)) (IL:tQ ts gp op c ask 1 (k+1)):BQ ts gp op c ask k:=by
 intro oo out w ho hx hP hk;rcases Jk hx with ⟨h1,h2,rfl⟩ | ⟨h1,h2,rfl⟩ | ⟨h1,h2,o2,hx2,rfl⟩ | ⟨h1,h2,h3,o2,hx2,rfl⟩
 ·exact KR hG gp op c k oo ask w hP hk h1 h2
 ·rcases h1 with h1 | h1
  ·rcases JA h1 with ⟨_,e⟩ | ⟨_,e⟩
   ·exact wV hG gp op c k oo ask w hP hk _ (.inl rfl) e h2
   ·exact wV hG gp op c k oo ask w hP hk _ (.inr (.inl rfl)) e h2
  ·exact wV hG gp op c k oo ask w hP hk _ (.inr (.inr rfl)) h1 h2
 ·rcases JA h1 with ⟨e0,e⟩ | ⟨e0,e⟩
  ·rw [e0];exact FE hG gp op c k oo ask w hP hk ho 13 _ (.inl ⟨rfl,rfl⟩) e h2 hx2 IP
  ·rw [e0];exact FE hG gp op c k oo ask w hP hk ho 14 _ (.inr ⟨rfl,rfl⟩) e h2 hx2 IP
 ·exact NY hG gp op c k oo ask w hP hk ho h2 h3 hx2 IL
end Go.Proofs.YtaanhmndeobgbaaGreatDoor.fT
