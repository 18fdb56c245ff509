/- Part 48 of the proof: what is used of the texts PbkS, PbkT, PbkUf. -/
import Derived.Test.YtaanhmndeobgbaaGreatDoorGC1
import Derived.KernelRfl
import Derived.Test.YtaanhmndeobgbaaGreatDoorGE2
import Derived.Test.YtaanhmndeobgbaaGreatDoorGE3
import Derived.Test.YtaanhmndeobgbaaGreatDoorGB9
import Derived.Test.YtaanhmndeobgbaaGreatDoorGB8
import Derived.Test.YtaanhmndeobgbaaGreatDoorGC0
set_option maxRecDepth 100000
namespace Go.Proofs.YtaanhmndeobgbaaGreatDoor.fT
open Go.Proofs.YtaanhmndeobgbaaGreatDoor.Expr Prog
open Lex (Tok)
def known1:List UInt8:=[105,110,105,116,32,120,32,61,32,51,59,32,116,104,114,101,97,100,32,123,32,114,49,32,61,32,108,111,97,100,40,120,44,32,97,99,113,41,59,32,105,102,32,40,114,49,32,61,61,32,49,41,32,123,32,115,116,111,114,101,40,121,44,32,45,114,49,32,43,32,50,44,32,114,108,120,41,59,32,125,32,125,10,102,111,114,97,108,108,32,48,58,114,49,32,60,61,32,120,59]
def jg:List Lex.Tok:=[⟨2,[105,110,105,116],0,1,1⟩,⟨2,[120],0,1,6⟩,⟨3,[61],0,1,8⟩,⟨1,[51],3,1,10⟩,⟨3,[59],0,1,11⟩,⟨2,[116,104,114,101,97,100],0,1,13⟩,⟨3,[123],0,1,20⟩,⟨2,[114,49],0,1,22⟩,⟨3,[61],0,1,25⟩,⟨2,[108,111,97,100],0,1,27⟩,⟨3,[40],0,1,31⟩,⟨2,[120],0,1,32⟩,⟨3,[44],0,1,33⟩,⟨2,[97,99,113],0,1,35⟩,⟨3,[41],0,1,38⟩,⟨3,[59],0,1,39⟩,⟨2,[105,102],0,1,41⟩,⟨3,[40],0,1,44⟩,⟨2,[114,49],0,1,45⟩,⟨3,[61,61],0,1,48⟩,⟨1,[49],1,1,51⟩,⟨3,[41],0,1,52⟩,⟨3,[123],0,1,54⟩,⟨2,[115,116,111,114,101],0,1,56⟩,⟨3,[40],0,1,61⟩,⟨2,[121],0,1,62⟩,⟨3,[44],0,1,63⟩,⟨3,[45],0,1,65⟩,⟨2,[114,49],0,1,66⟩,⟨3,[43],0,1,69⟩,⟨1,[50],2,1,71⟩,⟨3,[44],0,1,72⟩,⟨2,[114,108,120],0,1,74⟩,⟨3,[41],0,1,77⟩,⟨3,[59],0,1,78⟩,⟨3,[125],0,1,80⟩,⟨3,[125],0,1,82⟩,⟨2,[102,111,114,97,108,108],0,2,1⟩,⟨1,[48],0,2,8⟩,⟨3,[58],0,2,9⟩,⟨2,[114,49],0,2,10⟩,⟨3,[60,61],0,2,13⟩,⟨2,[120],0,2,16⟩,⟨3,[59],0,2,17⟩,⟨0,[],0,2,18⟩]
def nV:Ts:=⟨[(120,3)],[.cons ⟨2,1,3,120,none,none⟩ .nil .nil (.cons ⟨8,0,0,0,some (.two 1 (.reg 1) (.num 1)),none⟩ (.cons ⟨3,0,2,121,some (.two 5 (.one 14 (.reg 1)) (.num 2)),none⟩ .nil .nil .nil) .nil .nil)],true,some (.two 4 (.of 0 1) (.loc 120))⟩
def Pj:List UInt8:=[105,110,105,116,32,120,32,61,32,51,59,10,116,104,114,101,97,100,32,123,10,32,32,114,49,32,61,32,108,111,97,100,40,120,44,32,97,99,113,41,59,10,32,32,105,102,32,40,114,49,32,61,61,32,49,41,32,123,10,32,32,32,32,115,116,111,114,101,40,121,44,32,45,114,49,32,43,32,50,44,32,114,108,120,41,59,10,32,32,125,10,125,10,102,111,114,97,108,108,32,48,58,114,49,32,60,61,32,120,59,10]
def IG:List UInt8:=[116,104,114,101,97,100,32,123,32,114,48,32,61,32,108,111,97,100,40,120,44,32,114,101,108,41,59,32,125,32,101,120,105,115,116,115,32,49,59]
def tV:List Lex.Tok:=[⟨2,[116,104,114,101,97,100],0,1,1⟩,⟨3,[123],0,1,8⟩,⟨2,[114,48],0,1,10⟩,⟨3,[61],0,1,13⟩,⟨2,[108,111,97,100],0,1,15⟩,⟨3,[40],0,1,19⟩,⟨2,[120],0,1,20⟩,⟨3,[44],0,1,21⟩,⟨2,[114,101,108],0,1,23⟩,⟨3,[41],0,1,26⟩,⟨3,[59],0,1,27⟩,⟨3,[125],0,1,29⟩,⟨2,[101,120,105,115,116,115],0,1,31⟩,⟨1,[49],1,1,38⟩,⟨3,[59],0,1,39⟩,⟨0,[],0,1,40⟩]
theorem II:Lex.fq known1 = .ok jg:=by kernel_rfl
theorem IJ:Lex.fq IG = .ok tV:=by kernel_rfl
theorem XG:dec 0=[48]:=sw (by decide)
theorem XH:dec 1=[49]:=sw (by decide)
theorem XI:dec 2=[50]:=sw (by decide)
theorem XJ:dec 3=[51]:=sw (by decide)
theorem IK:nV.text=Pj:=by
 simp [Ts.text,nV,iq,gV,az.text,gI,line,indent,qC,Ex.text,dG,Ex.strong,ai,XG,XH,XI,XJ,Pj,sign,aH,tJ,az.len,List.replicate]
section
variable {ts : List Lex.Tok} {ask : Bool}
theorem sM {o k k1:Nat} {e:Ex} (h1:qw ts k=0) (h2:aj ts k ≠ [40]) (h:fo ts ask k = .ok e k1):Px ts ask (.part o) k (.ok e k1):=h ▸ .leaf h1 h2
theorem U5 {o least k k1:Nat} {e:Ex} (h:Px ts ask (.part o) k (.ok e k1)) (hs:ai (iH ts k1)<least):Px ts ask (.ops o least) k (.ok e k1):=.first h (.stop hs)
theorem IM {o least k k1 k2:Nat} {a b:Ex} (h:Px ts ask (.part o) k (.ok a k1)) (hl:least<=ai (iH ts k1)) (h2:Px ts ask (.part o) (k1+1) (.ok b k2)) (hs:ai (iH ts k2)<ai (iH ts k1)+1) (hs2:ai (iH ts k2)<least):Px ts ask (.ops o least) k (.ok (.two (iH ts k1) a b) k2) :=
 .first h (.go hl (U5 h2 hs) (.stop hs2))
theorem JQ {kind reg k x k1:Nat} {a:Option Ex} {m:Nat} (h40:ak ts [40] k = .ok () (k+1)) (hk:kind≠7) (hl:jo ts (k+1) = .ok x (k+2)) (hc:ak ts [44] (k+2) = .ok () (k+3))
  (ha:(if kind=7 \/ kind=2 then .ok none (k+3) else (bG ts false (k+3)).bind fun a k=>(ak ts [44] k).map fun _=>some a:Out (Option Ex)) = .ok a k1) (h6:kind≠6) (hm:jc ts kind k1 = .ok m (k1+1)) (h41:ak ts [41] (k1+1) = .ok () (k1+2)) (h59:ak ts [59] (k1+2) = .ok () (k1+3)) :
  bJ ts kind reg k = .ok ⟨kind,reg,m,x,a,none⟩ (k1+3):=by
 unfold bJ;rw [h40,aN,if_neg hk,hl,aN,hc,show (Out.map (fun _=>x) (Out.ok () (k+3)):Out Nat) = .ok x (k+3) from rfl,aN,ha,aN,if_neg h6,aN,hm,aN,h41,aN,h59]
 rfl
end
theorem ex1:bG jg false 18 = .ok (.two 1 (.reg 1) (.num 1)) 21:=(mF (IM (ts:=jg) (k:=18) (k1:=19) (k2:=21) (sM (by decide) (by decide) rfl) (by decide) (sM (by decide) (by decide) rfl) (by decide) (by decide))).trans rfl
theorem ex2:bG jg false 27 = .ok (.two 5 (.one 14 (.reg 1)) (.num 2)) 31:=(mF (IM (ts:=jg) (k:=27) (k1:=29) (k2:=31) (.sign (by decide) (by decide) (sM (k1:=29) (by decide) (by decide) rfl)) (by decide) (sM (by decide) (by decide) rfl) (by decide) (by decide))).trans rfl
theorem ex3:bG jg true 38 = .ok (.two 4 (.of 0 1) (.loc 120)) 43:=(mF (IM (ts:=jg) (k:=38) (k1:=41) (k2:=43) (sM (by decide) (by decide) rfl) (by decide) (sM (by decide) (by decide) rfl) (by decide) (by decide))).trans rfl
theorem a0v:bH jg 7 = .ok ⟨2,1,3,120,none,none⟩ 16:=by
 unfold bH;rw [if_neg (by decide),if_neg (by decide),show gy jg 7 = .ok 1 8 from rfl,aN,show ak jg [61] 8 = .ok () 9 from rfl,aN];unfold qD;rw [if_pos (by decide)];exact JQ rfl (by decide) rfl rfl rfl (by decide) rfl rfl rfl
theorem a0w:bH jg 23 = .ok ⟨3,0,2,121,some (.two 5 (.one 14 (.reg 1)) (.num 2)),none⟩ 35:=by
 unfold bH;rw [if_pos (by decide)];exact JQ (k1:=32) rfl (by decide) rfl rfl (by rw [if_neg (by decide),ex2];rfl) (by decide) rfl rfl rfl
theorem XK:iA jg 17 = .ok (.two 1 (.reg 1) (.num 1)) 22:=by
 unfold iA;rw [show ak jg [40] 17 = .ok () 18 from rfl,aN,ex1]
 rfl
theorem a0x:uk jg nV.init nV.threads 37 = .ok nV 45:=by
 unfold uk;rw [if_pos (by decide),if_pos (by decide),ex3]
 rfl
theorem LB:∃ k,Tx jg (.inits []) 0 (.ok nV k):=by
 have h1:Bx jg (.stmt 1) 7 (.ok (.cons ⟨2,1,3,120,none,none⟩ .nil .nil .nil) 16):=by
  have h:=Bx.flat (ts:=jg) (d:=1) (k:=7) (by decide) (by decide)
  rwa [a0v] at h
 have h3:Bx jg (.stmt 2) 23 (.ok (.cons ⟨3,0,2,121,some (.two 5 (.one 14 (.reg 1)) (.num 2)),none⟩ .nil .nil .nil) 35):=by
  have h:=Bx.flat (ts:=jg) (d:=2) (k:=23) (by decide) (by decide)
  rwa [a0w] at h
 have hq:=Tx.ask (ts:=jg) (k:=37) (l:=nV.init) (q:=nV.threads) (by decide);rw [a0x] at hq
 exact ⟨45,.init (by decide) (show dC jg 1 = .ok (120,3) 5 from rfl) (.inited (by decide) (.thread (by decide) (by decide)
  (.block (by decide) (by decide) (.step (by decide) h1 (.step (by decide) (.cond (by decide) XK (.block (by decide) (by decide) (.step (by decide) h3 (.close (by decide)))) (by decide)) (.close (by decide))))) hq))⟩
theorem Jn:bH tV 2 = .bad 8 7:=by
 unfold bH;rw [if_neg (by decide),if_neg (by decide),show gy tV 2 = .ok 0 3 from rfl,aN,show ak tV [61] 3 = .ok () 4 from rfl,aN];unfold qD;rw [if_pos (by decide)];unfold bJ;rw [show ak tV [40] 5 = .ok () 6 from rfl,aN,if_neg (by decide),show jo tV 6 = .ok 120 7 from rfl,aN,show ak tV [44] 7 = .ok () 8 from rfl];rw [show (Out.map (fun _=>120) (Out.ok () 8):Out Nat) = .ok 120 8 from rfl,aN];rw [if_pos (by decide),aN,if_neg (by decide),aN,show jc tV 2 8 = .bad 8 7 from rfl]
 rfl
theorem LC:Tx tV (.inits []) 0 (.bad 8 7):=by
 have h:=Bx.flat (ts:=tV) (d:=1) (k:=2) (by decide) (by decide);rw [Jn] at h;exact .inited (by decide) (.kF (by decide) (by decide) (.block (by decide) (by decide) (.nN (by decide) h)))
end Go.Proofs.YtaanhmndeobgbaaGreatDoor.fT
namespace Go.Proofs.YtaanhmndeobgbaaGreatDoor.fT
open Go.Proofs.YtaanhmndeobgbaaGreatDoor.Expr Prog
theorem IQ {m:Mk} (h:m.proper):m.mode<256/\m.loc<256/\m.kind<256:=by
 obtain ⟨kind,reg,mode,loc,a,b⟩:=m;obtain ⟨_,_,h⟩:=h;simp only at h ⊢
 match kind,h with
 | 1,⟨h,hl,_⟩=>exact ⟨by omega,by omega,by omega⟩
 | 2,⟨h,hl,_⟩ | 4,⟨h,hl,_⟩ | 5,⟨h,hl,_⟩ | 6,⟨h,hl,_⟩=>exact ⟨by omega,by have:=hl.2;omega,by omega⟩
 | 3,⟨h,hl,_⟩=>exact ⟨by omega,by have:=hl.2;omega,by omega⟩
 | 7,⟨h,hl,_⟩=>exact ⟨by omega,by omega,by omega⟩
 | 8,⟨h,hl,_⟩ | 9,⟨h,hl,_⟩=>exact ⟨by omega,by omega,by omega⟩
 | 0,h | n+10,h=>exact h.elim
theorem yC:∀ {b:az},b.proper->um b->b.fine
 | .nil,_,_=>trivial
 | .cons m t e r,⟨hm,ht,he,hr,_⟩,⟨pm,pt,pe,pr⟩=>by
  obtain ⟨h1,h2,h3⟩:=IQ hm;exact ⟨hm.1,hm.2.1,by have:=pm.reg;omega,h1,h2,h3,yC ht pt,yC he pe,yC hr pr⟩
theorem Read.good {t:Ts} (h:Read t):t.good/\t.small:=by
 have h4:=h.prints.few;have hp:=h.prints.proper;have hf:∀ b ∈ t.threads,b.fine:=fun b hb=>yC (hp.threads b hb).1 (h.prints.threads b hb)
 exact ⟨⟨h.init,by omega,fun b hb=>⟨hf b hb,Ky b 8 (hp.threads b hb).1 (hp.threads b hb).2⟩,hp.ask⟩,
  ⟨h.init,fun i hi=>⟨by have:=(hp.init i hi).2;omega,(h.prints.init i hi).2⟩,by omega,fun b hb=>⟨hf b hb,by have:=h.each b hb;omega⟩,hp.ask⟩⟩
theorem Aq:fG known1 = .ok nV:=by
 obtain ⟨k,h⟩:=LB;exact nU II (Ai h)
theorem IU:fG IG = .err 1 23 7:=ma IJ (Ai LC)
theorem U6:nV.good/\nV.small:=Read.good (JL Aq)
end Go.Proofs.YtaanhmndeobgbaaGreatDoor.fT
namespace Go.Proofs.YtaanhmndeobgbaaGreatDoor.fT
open Go.RowKit Mem Go.Proofs.YtaanhmndeobgbaaGreatDoor.Expr Prog Go.Lib
def kb1:ByteArray:=⟨([105,110,105,116,32,120,32,61,32,51,59,32,116,104,114,101,97,100,32,123,32,114,49,32,61,32,108,111,97,100,40,120,44,32,97,99,113,41,59,32,105,102,32,40,114,49,32,61,61,32].append [49,41,32,123,32,115,116,111,114,101,40,121,44,32,45,114,49,32,43,32,50,44,32,114,108,120,41,59,32,125,32,125,10,102,111,114,97,108,108,32,48,58,114,49,32,60,61,32,120,59]).toArray⟩
def kb2:ByteArray:=⟨#[116,104,114,101,97,100,32,123,32,114,48,32,61,32,108,111,97,100,40,120,44,32,114,101,108,41,59,32,125,32,101,120,105,115,116,115,32,49,59]⟩
def kb3:ByteArray:=⟨([105,110,105,116,32,120,32,61,32,51,59,10,116,104,114,101,97,100,32,123,10,32,32,114,49,32,61,32,108,111,97,100,40,120,44,32,97,99,113,41,59,10,32,32,105,102,32,40,114,49,32,61,61,32].append [49,41,32,123,10,32,32,32,32,115,116,111,114,101,40,121,44,32,45,114,49,32,43,32,50,44,32,114,108,120,41,59,10,32,32,125,10,125,10,102,111,114,97,108,108,32,48,58,114,49,32,60,61,32,120,59,10]).toArray⟩
theorem Pk:kb1.data.toList=known1:=by kernel_rfl
theorem Pm:kb2.data.toList=IG:=by kernel_rfl
theorem RP:str Pj=kb3:=by kernel_rfl
/-- The two texts are read, and the first is written, as the document says. -/
theorem LD (w:World) (hX:Prog.All w):Calls Tryz.prog 4 #[] w fun e w'=>Made (.returned (.bool true)) w e w':=by
 have F8:=hid (fun W (h:Below w.heap.size w W)=>(show Calls Tryz.prog _ #[.string ⟨([105,110,105,116,32,120,32,61,32,51,59,32,116,104,114,101,97,100,32,123,32,114,49,32,61,32,108,111,97,100,40,120,44,32,97,99,113,41,59,32,105,102,32,40,114,49,32,61,61,32].append [49,41,32,123,32,115,116,111,114,101,40,121,44,32,45,114,49,32,43,32,50,44,32,114,108,120,41,59,32,125,32,125,10,102,111,114,97,108,108,32,48,58,114,49,32,60,61,32,120,59]).toArray⟩] W fun e W'=>∃ pi ci pt ct pa,e = .returned (.tuple #[.agg #[.slice pi 1 ci,.slice pt 1 ct,.bool true,.pointer pa],.agg #[.int .i64 0,.int .i64 0],.int .i64 0])/\nO W' nV (.slice pi 1 ci) (.slice pt 1 ct) (.pointer pa)/\Below w.heap.size w W' /\ W.heap.size<=W'.heap.size from
  (xh kb1 W (by decide) (hX.below h)).mono fun e W' hm=>by
   rw [Pk,Aq] at hm;obtain ⟨hb,vi,vt,pa,he,hv⟩:=hm;obtain ⟨pi,ci,rfl⟩:=hv.init.len;obtain ⟨pt,ct,rfl⟩:=hv.threads.len
   exact ⟨pi,ci,pt,ct,pa,he,hv,h.trans (hb.mono h.size),hb.size⟩))
 have ML:=hid (fun W (h:Below w.heap.size w W)=>(show Calls Tryz.prog _ #[.string ⟨#[116,104,114,101,97,100,32,123,32,114,48,32,61,32,108,111,97,100,40,120,44,32,114,101,108,41,59,32,125,32,101,120,105,115,116,115,32,49,59]⟩] W fun e W'=>e = .returned (.tuple #[.agg #[.slice none 0 0,.slice none 0 0,.bool false,.pointer none],.agg #[.int .i64 1,.int .i64 23],.int .i64 7])/\Below W.heap.size W W' from
  (xh kb2 W (by decide) (hX.below h)).mono fun e W' hm=>by
   rw [Pm,IU] at hm
   exact ⟨hm.2,hm.1⟩))
 have HT:=hid (fun pi ci pt ct pa W (h:Below w.heap.size w W) (hv:nO W nV (.slice pi 1 ci) (.slice pt 1 ct) (.pointer pa))=>(show Calls Tryz.prog _ #[.agg #[.slice pi 1 ci,.slice pt 1 ct,.bool true,.pointer pa]] W fun e W'=>e = .returned (.string ⟨([105,110,105,116,32,120,32,61,32,51,59,10,116,104,114,101,97,100,32,123,10,32,32,114,49,32,61,32,108,111,97,100,40,120,44,32,97,99,113,41,59,10,32,32,105,102,32,40,114,49,32,61,61,32].append [49,41,32,123,10,32,32,32,32,115,116,111,114,101,40,121,44,32,45,114,49,32,43,32,50,44,32,114,108,120,41,59,10,32,32,125,10,125,10,102,111,114,97,108,108,32,48,58,114,49,32,60,61,32,120,59,10]).toArray⟩)/\Below W.heap.size W W' from
  (He nV U6.2 (by intro b hb;obtain rfl:b=_:=List.mem_singleton.1 hb;simp [az.few]) _ _ _ W (hX.below h) hv).mono fun e W' hm=>by
   rw [IK,RP] at hm
   exact hm))
 have HB:=hid (Below.refl w.heap.size w);clear hX;go_enter Tryz.func4,Tryz.ntmps4;go_wp2_with fail
 refine (F8.out _ HB.out).mono ?_;rintro e w1 ⟨pi,ci,pt,ct,pa,rfl,hv,hb,hz⟩;have HV:=hid hv;have HB1:=hid hb;clear hv hb hz F8;have hlow:Below w1.heap.size w1 ((w1.alloc (.cells #[.slice pi 1 ci,.slice pt 1 ct,.bool true,.pointer pa] 27)).alloc (.cells #[.int .i64 0,.int .i64 0] 29)):=((Below.refl _ _).alloc (Nat.le_refl _) _).alloc (by simp) _;have HS2:=hid (show Sits ((w1.alloc (.cells #[.slice pi 1 ci,.slice pt 1 ct,.bool true,.pointer pa] 27)).alloc (.cells #[.int .i64 0,.int .i64 0] 29)) w1.heap.size 27 #[.slice pi 1 ci,.slice pt 1 ct,.bool true,.pointer pa] from (Sits.new _ _ _).alloc _);have YH:=hid (HV.out.below hlow);have HB2:=hid (HB1.out.trans (hlow.mono HB1.out.size));clear hlow HV;go_wp2_with fail
 generalize (w1.alloc (.cells #[.slice pi 1 ci,.slice pt 1 ct,.bool true,.pointer pa] 27)).alloc (.cells #[.int .i64 0,.int .i64 0] 29)=w2 at HS2 YH HB2 ⊢;generalize w1.heap.size=g1 at HS2 ⊢;refine (ML.out _ HB2.out).mono ?_;rintro e w3 ⟨rfl,hb⟩;have qp:=hid (HS2.out.below hb HS2.out.lt);have HV3:=hid (YH.out.below hb);have HB3:=hid (HB2.out.trans (hb.mono HB2.out.size));have hlow:Below w3.heap.size w3 ((w3.alloc (.cells #[.slice none 0 0,.slice none 0 0,.bool false,.pointer none] 27)).alloc (.cells #[.int .i64 1,.int .i64 23] 29)):=((Below.refl _ _).alloc (Nat.le_refl _) _).alloc (by simp) _;have Bz:=hid (HT.out pi ci pt ct pa _ (HB3.out.trans (hlow.mono HB3.out.size)) (HV3.out.below hlow));have sZ:=hid (HB3.out.trans (hlow.mono HB3.out.size));have YM:=hid (show Sits ((w3.alloc (.cells #[.slice none 0 0,.slice none 0 0,.bool false,.pointer none] 27)).alloc (.cells #[.int .i64 1,.int .i64 23] 29)) (w3.heap.size+1) 29 #[.int .i64 1,.int .i64 23] from Sits.made (by simp) _ _);have a0:=qp.out.cell 0;have a1:=qp.out.cell 1;have a2:=qp.out.cell 2;have a3:=qp.out.cell 3;have la:=qp.out.lt;clear hb hlow ML HT;go_wp2_with fail
 generalize (w3.alloc (.cells #[.slice none 0 0,.slice none 0 0,.bool false,.pointer none] 27)).alloc (.cells #[.int .i64 1,.int .i64 23] 29)=w4 at Bz sZ YM ⊢;generalize w3.heap.size+1=gp at YM ⊢;refine Bz.out.mono ?_;rintro e w5 ⟨rfl,hb⟩;have Gc:=hid (sZ.out.trans (hb.mono sZ.out.size));have HP5:=hid (YM.out.below hb YM.out.lt);have b0:=HP5.out.cell 0;have b1:=HP5.out.cell 1;have lb:=HP5.out.lt;clear a0 a1 a2 a3 la hb;go_wp2_with fail
 go_ret;exact ⟨rfl,Gc.out⟩
end Go.Proofs.YtaanhmndeobgbaaGreatDoor.fT
