/- Part 19 of the proof: what is used of the texts StmH, StmI, StmE. -/
import Derived.Test.YtaanhmndeobgbaaGreatDoorGB0
import Derived.Test.YtaanhmndeobgbaaGreatDoorGA9
import Derived.Test.YtaanhmndeobgbaaGreatDoorGB7
set_option maxRecDepth 100000
set_option maxHeartbeats 2000000
namespace Go.Proofs.YtaanhmndeobgbaaGreatDoor.Prog
open Go.RowKit Mem Go.Proofs.YtaanhmndeobgbaaGreatDoor.Expr Go.Lib
theorem BD:∀ (b:az) (n m:Nat),n<=m->b.over n=false->b.over m=false:=by
 intro b;induction b with
 | nil=>intro n m _ _;simp [az.over]
 | cons s t e r F9 Kh ihr =>
  intro n m hnm h;cases n with
  | zero=>simp [az.over] at h
  | succ n =>
   obtain ⟨m,rfl⟩:∃ k,m=k+1:=⟨m - 1,by omega⟩
   simp only [az.over,Bool.or_eq_false_iff] at h ⊢
   exact ⟨⟨F9 n m (by omega) h.1.1,Kh n m (by omega) h.1.2⟩,ihr (n+1) (m+1) (by omega) h.2⟩
theorem Ky:∀ (b:az) (n:Nat),b.proper->b.deep<=n->b.over n=false:=by
 intro b;induction b with
 | nil=>intro n _ _;simp [az.over]
 | cons m t e r F9 Kh ihr =>
  intro n hp hd;obtain ⟨hm,ht,he,hr,hne,hnt⟩:=ER hp;have h1:=(az.cons m t e r).qW;obtain ⟨n,rfl⟩:∃ k,n=k+1:=⟨n - 1,by omega⟩
  have hr':r.over (n+1)=false:=ihr (n+1) hr (by simp only [az.deep] at hd;omega);by_cases h8:m.kind=8
  ·have ht':=F9 n ht (by simp only [az.deep,if_pos h8] at hd;omega)
   have he':=Kh n he (by simp only [az.deep,if_pos h8] at hd;omega);simp [az.over,ht',he',hr']
  ·obtain rfl:=hne h8
   by_cases h9:m.kind=9
   ·have ht':=F9 n ht (by simp only [az.deep,if_neg h8,if_pos h9] at hd;omega)
    simp [az.over,ht',hr']
   ·obtain rfl:=hnt h8 h9
    simp [az.over,hr']
theorem zm (q r:az) (n:Nat):(q.app r).over (n+1)=(q.over (n+1) || r.over (n+1)):=by
 induction q with
 | nil=>simp [az.app,az.over]
 | cons m t e q _ _ ih=>simp only [az.app,az.over,ih,Bool.or_assoc]
theorem Jo (q:az) (m:Mk) (t e:az):Value.int .i64 ((q.len:Int)+1) = .int .i64 ((q.snoc m t e).len:Nat):=by rw [az.iG];rfl
def zn (c:az) (rm:Int) (r:Bool):Prop:=∀ (v:Value) (w:World),aR gu w c v->Calls Tryz.prog 61 #[v,.int .i64 rm] w fun e w'=>Made (.returned (.bool r)) w e w'
theorem Fq (m:Mk) (t e:az) (room:Nat) (h1:1<=room) (h2:room<=1000) (pa pb:Option Addr) (tv ev:Value) (w:World) (rb:Nat) (hrb:Sits w rb 3 #[.int .i64 (room:Nat)])
  (ht:aR gu w t tv) (he:aR gu w e ev) (bt be:Bool) (HT:zn t ((room:Int) - 1) bt) (HE:zn e ((room:Int) - 1) be) :
  Calls Tryz.prog 94 #[kZ m (.pointer pa) (.pointer pb) tv ev,.pointer (some ⟨rb,0,none⟩)] w fun e' w'=>Made (.returned (.bool (bt || be))) w e' w':=by
 have hb0:Below w.heap.size w (w.alloc (.cells #[.int .u8 m.kind,.int .u8 m.reg,.int .u8 m.mode,.int .u8 m.loc,.pointer pa,.pointer pb,tv,ev] 119)):=(Below.refl _ _).alloc (Nat.le_refl _) _;have hs0:Sits (w.alloc (.cells #[.int .u8 m.kind,.int .u8 m.reg,.int .u8 m.mode,.int .u8 m.loc,.pointer pa,.pointer pb,tv,ev] 119)) w.heap.size 119 #[.int .u8 m.kind,.int .u8 m.reg,.int .u8 m.mode,.int .u8 m.loc,.pointer pa,.pointer pb,tv,ev]:=Sits.new _ _ _;have HB0:=hid hb0;have LP:=hid hs0;have Au:=hid (hrb.below hb0 hrb.lt);have HST:=hid (ht.below hb0);have Yf:=hid (he.below hb0);have HHT:=hid HT;have Zx:=hid HE;obtain ⟨pt,ct,rfl,_⟩:=ht.len;obtain ⟨pe,ce,rfl,_⟩:=he.len;have i1:(1:Int)<=(room:Int):=by omega
 have i2:(room:Int)<=1000:=by omega
 have lr:=hrb.lt;have cr:=hrb.cell 0;clear hrb ht he HT HE h1 h2 hb0 hs0;unfold kZ;go_enter Tryz.func94,Tryz.ntmps94;go_wp2_with fail
 generalize w.alloc (.cells #[.int .u8 m.kind,.int .u8 m.reg,.int .u8 m.mode,.int .u8 m.loc,.pointer pa,.pointer pb,.slice pt t.len ct,.slice pe e.len ce] 119)=wa at HB0 LP Au HST Yf ⊢;refine (HHT.out _ _ HST.out).mono ?_;rintro e' w1 ⟨rfl,hb⟩;have HB1:=hid (HB0.out.trans (hb.mono HB0.out.size));have c7:=(LP.out.below hb LP.out.lt).cell 7;have l7:=(LP.out.below hb LP.out.lt).lt;have cr:=(Au.out.below hb Au.out.lt).cell 0;have lr:=(Au.out.below hb Au.out.lt).lt;have Zy:=hid (Yf.out.below hb);clear hb;cases bt
 ·go_wp2_with fail
  refine (Zx.out _ _ Zy.out).mono ?_;rintro e' w2 ⟨rfl,hb⟩;have HB2:=hid (HB1.out.trans (hb.mono HB1.out.size));clear hb;go_wp2_with fail
  go_ret;exact ⟨rfl,HB2.out⟩
 ·go_wp2_with fail
  go_ret;exact ⟨rfl,HB1.out⟩
theorem zo:Expr.Enters 94:=enters_of Tryz.func94 (by kernel_rfl) rfl
def Dj (r:Bool) (w:World) (e:Ending) (w':World):Prop:=∃ z:Int,e = .returned (.int .i64 z)/\decide (0<=z)=r/\Below w.heap.size w w'
theorem Kz (b:az) (room:Nat) (h1:1<=room) (h2:room<=1000) (v:Value) (w:World) (rb:Nat) (hrb:Sits w rb 3 #[.int .i64 (room:Nat)]) (hS:aR gu w b v)
  (IH:∀ c:az,c.size<b.size->zn c ((room:Int) - 1) (c.over (room - 1))) :
  Calls Tryz.prog 129 #[v,.func (.func 94) #[] #[.pointer (some ⟨rb,0,none⟩)]] w (Dj (b.over room) w):=by
 obtain ⟨p,cap,rfl,hl,hr⟩:=hS.rests;have HR:=hid hr;have Ef:=hid IH;have HRB:=hid hrb;have H1:=hid h1;have H2:=hid h2;have hen:=zo;unfold Expr.Enters at hen;have i1:(b.len:Int)<=1000000:=by omega
 clear hS IH hr hl hrb h1 h2;go_enter Tryz.func129,Tryz.ntmps129;go_wp2_with fail
 go_loopg [8] b.len (fun gg v8 wx=>∃ (q r:az),gg=r.len/\b.len=q.len+r.len/\v8 = .int .i64 (q.len:Nat)/\Hid (b=q.app r)/\Hid (q.over room=false)/\Hid (uU w p b.len r q.len)/\Hid (Below w.heap.size w wx))
 case atStart=>exact ⟨az.nil,b,rfl,by simp [az.len],rfl,hid rfl,hid (by simp [az.over]),HR,hid (Below.refl _ _)⟩
 case round =>
  obtain ⟨q,r,rfl,hlen,rfl,HE,Yg,Sg,HB⟩:=hrel;obtain ⟨rm,hrm⟩:∃ k,room=k+1:=⟨room - 1,by have:=H1.out;omega⟩
  cases r with
  | nil =>
   have e:b.len=q.len:=by simpa [az.len] using hlen
   have jY:=hid (show b.over room=false by rw [HE.out,az.uT];exact Yg.out);have i4:¬ ((q.len:Int)<(b.len:Int)):=by omega
   clear e hlen hrm;go_wp2_with fail
   go_ret;exact ⟨-1,rfl,by rw [jY.out];rfl,HB.out⟩
  | cons m t e r =>
   obtain ⟨g,o,rfl,hk,hr',av,bv,tv,ev,hst,Gd,htb,zq,zt⟩:=Sg.out.next;obtain ⟨pa,rfl,_⟩:=Gd.ptr;obtain ⟨pb,rfl,_⟩:=htb.ptr;have og:=hid hr';have pX:=hid (show t.size<b.size/\e.size<b.size by rw [HE.out,az.yV];simp only [az.size];omega);have HD1:=hid (Fq m t e room H1.out H2.out pa pb tv ev wr rb (HRB.out.below HB.out HRB.out.lt) (zq.below HB.out) (zt.below HB.out) (t.over (room - 1)) (e.over (room - 1)) (Ef.out t pX.out.1) (Ef.out e pX.out.2));obtain ⟨c0,c1,c2,c3,c4,c5,c6,c7⟩:=hst.low HB.out;have lg:=World.block_lt_of_cell? _ _ c0;obtain ⟨pt,ct,rfl,_⟩:=zq.len;obtain ⟨pe,ce,rfl,_⟩:=zt.len;have TU:=hid (show b=(q.snoc m t e).app r by rw [HE.out,az.kR]);have lq:(q.len:Int)<(b.len:Int):=by omega
   have lq0:(0:Int)<=(q.len:Int):=by omega
   have yu:=hid (show b.len=(q.snoc m t e).len+r.len by rw [az.iG];simp only [az.len] at hlen;omega)
   have QA:Hid (b.over room=((t.over (room - 1) || e.over (room - 1)) || r.over room)/\(q.snoc m t e).over room=(t.over (room - 1) || e.over (room - 1))):=hid (by
    have h:=Yg.out;rw [HE.out,az.Je,hrm,zm,zm];rw [hrm] at h;rw [h]
    simp [az.over])
   clear hst Gd htb zq zt hr' hlen hrm;generalize (t.over (room - 1) || e.over (room - 1))=bo at HD1 QA;unfold kZ at HD1;cases bo
   ·go_wp2_with fail
    refine HD1.out.mono ?_;rintro e' w2 ⟨rfl,hb⟩;have HB2:=hid (HB.out.trans (hb.mono HB.out.size));clear hb;go_wp2_with fail
    go_roundg r.len
    case measure=>simp [az.len]
    case rel=>exact ⟨q.snoc m t e,r,rfl,yu.out,Jo q m t e,TU,hid QA.out.2,hid (by rw [az.iG];exact og.out),HB2⟩
   ·go_wp2_with fail
    refine HD1.out.mono ?_;rintro e' w2 ⟨rfl,hb⟩;have HB2:=hid (HB.out.trans (hb.mono HB.out.size));clear hb;go_wp2_with fail
    go_ret;exact ⟨q.len,rfl,by rw [QA.out.1];simp,HB2.out⟩
theorem Dk (r:Bool) (p:Option Addr) (n cap:Nat) (c:Array Value) (w:World) (HI:Calls Tryz.prog 129 #[.slice p n cap,.func (.func 94) #[] c] w (Dj r w)) :
  Calls Tryz.prog 93 #[.slice p n cap,.func (.func 94) #[] c] w fun e w'=>Made (.returned (.bool r)) w e w':=by
 have H:=hid HI;clear HI;go_enter Tryz.func93,Tryz.ntmps93;go_wp2_with fail
 refine H.out.mono ?_;rintro e w1 ⟨z,rfl,hz,hb⟩;have HB:=hid hb;have HZ:=hid hz;clear hb hz;go_wp2_with fail
 go_ret;exact ⟨cZ HZ.out,HB.out⟩
theorem G8:∀ (n:Nat) (b:az),b.size<n->∀ (room:Nat),room<=1000->zn b (room:Nat) (b.over room):=by
 intro n;induction n with
 | zero=>intro b h;omega
 | succ n ih =>
  intro b hb room hr v w hS;have h0:Below w.heap.size w (w.alloc (.cells #[.int .i64 (room:Nat)] 3)):=(Below.refl _ _).alloc (Nat.le_refl _) _;have hI:1<=room->∀ W,Below (w.alloc (.cells #[.int .i64 (room:Nat)] 3)).heap.size (w.alloc (.cells #[.int .i64 (room:Nat)] 3)) W ->
    Calls Tryz.prog 129 #[v,.func (.func 94) #[] #[.pointer (some ⟨w.heap.size,0,none⟩)]] W (Dj (b.over room) W):=fun h1 W hW =>
   Kz b room h1 hr v W w.heap.size ((Sits.new w 3 #[.int .i64 (room:Nat)]).below hW (by simp)) ((hS.below h0).below hW) fun c hc=>by
    have:=ih c (by omega) (room - 1) (by omega)
    rwa [show ((room - 1:Nat):Int)=(room:Int) - 1 by omega] at this
  have HI:=hid hI;have HB0:=hid h0;obtain ⟨p,cap,rfl,hl⟩:=hS.len;have hov:b.len=0->b.over room=false:=fun h=>by rw [az.yT h];simp [az.over]
  have QB:b.len≠0->room=0->b.over room=true:=fun h h'=>by
   subst h';cases b with
   | nil=>simp [az.len] at h
   | cons m t e r=>simp [az.over]
  have i1:(b.len:Int)<=1000000:=by omega
  have i2:(room:Int)<=1000:=by omega
  clear hS h0 hI;by_cases hb0:b.len=0
  ·have HO:=hid (hov hb0)
   have i3:(b.len:Int)=0:=by omega
   rw [hb0];clear hov QB i3 hb0 i1 hl;go_enter Tryz.func61,Tryz.ntmps61;go_wp2_with fail
   go_ret;exact ⟨cZ HO.out.symm,HB0.out⟩
  ·have i3:(0:Int)<(b.len:Int):=by omega
   by_cases hr0:room=0
   ·have HO:=hid (QB hb0 hr0)
    subst hr0;clear hov QB hb0 hl;go_enter Tryz.func61,Tryz.ntmps61;go_wp2_with fail
    go_ret;exact ⟨cZ HO.out.symm,HB0.out⟩
   ·have HI2:=hid (Dk (b.over room) p b.len cap _ _ (HI.out (by omega) _ (Below.refl _ _)))
    have z0:((room:Int) == 0)=false:=beq_eq_false_iff_ne.2 (by omega);clear hov QB hb0 hl hr0 HI;go_enter Tryz.func61,Tryz.ntmps61;go_wp2_with fail
    refine HI2.out.mono ?_;rintro e w1 ⟨rfl,hb⟩;have HB:=hid (HB0.out.trans (hb.mono HB0.out.size));clear hb;go_wp2_with fail
    go_ret;exact ⟨rfl,HB.out⟩
theorem Wh (a b:Option Ex) (ha:okO a) (h:a.isSome=true \/ b.isSome=true):(bC (kr a) 12 && decide (kr a=kr b))=decide (a=b):=by
 cases a with
 | none =>
  cases b with
  | none=>simp at h
  | some f=>simp [kr,bC]
 | some e =>
  have hf:bC (kr (some e)) 12=true:=I4 e ha.1 12 ha.2;rw [hf,Bool.true_and];by_cases he:some e=b
  ·rw [he];simp
  ·rw [decide_eq_false he,decide_eq_false (fun h=>he (Qb h))]
theorem pY (a b:Option Ex) (ha:okO a) (u v:Value) (w:World) (hu:Tree w (kr a) u) (hv:Tree w (kr b) v):Calls Tryz.prog 21 #[u,v] w fun e w'=>Made (.returned (.bool (decide (a=b)))) w e w':=by
 by_cases h:a.isSome=true \/ b.isSome=true
 ·have HS:=hid (Wh a b ha h ▸ Mo (kr a) (kr b) u v w hu hv)
  generalize decide (a=b)=r at HS ⊢;cases a with
  | none =>
   cases b with
   | none=>simp at h
   | some f =>
    obtain rfl:u = .pointer none:=hu;obtain ⟨p,rfl,hp⟩:=hv.ptr;have hp':p.isNone=false:=by rw [hp];cases f <;> rfl
    obtain ⟨q,rfl⟩:=Option.ne_none_iff_exists'.1 (show p≠none from fun e=>by rw [e] at hp';cases hp');clear hv h hp hp';go_enter Tryz.func21,Tryz.ntmps21;go_wp2_with fail
    refine HS.out.mono ?_;rintro e w1 ⟨rfl,hb⟩;have HB:=hid hb;clear hb;go_wp2_with fail
    go_ret;exact ⟨rfl,HB.out⟩
  | some f =>
   obtain ⟨p,rfl,hp⟩:=hu.ptr;obtain ⟨q',rfl,_⟩:=hv.ptr;have hp':p.isNone=false:=by rw [hp];cases f <;> rfl
   obtain ⟨q,rfl⟩:=Option.ne_none_iff_exists'.1 (show p≠none from fun e=>by rw [e] at hp';cases hp');clear hu hv h hp hp';go_enter Tryz.func21,Tryz.ntmps21;go_wp2_with fail
   refine HS.out.mono ?_;rintro e w1 ⟨rfl,hb⟩;have HB:=hid hb;clear hb;go_wp2_with fail
   go_ret;exact ⟨rfl,HB.out⟩
 ·have ea:a=none:=by cases a <;> simp at h ⊢
  have eb:b=none:=by cases b <;> simp at h ⊢
  subst ea eb;obtain rfl:u = .pointer none:=hu;obtain rfl:v = .pointer none:=hv;clear h;show Calls _ _ _ _ fun e w'=>Made (.returned (.bool true)) w e w'
  go_enter Tryz.func21,Tryz.ntmps21;go_wp2_with fail
  go_ret;exact ⟨rfl,Below.refl _ _⟩
structure zu (w:World) (sB mh mB:Nat):Prop where
 s:Sits w sB 81 #[.func (.func 60) #[] #[.pointer (some ⟨mB,0,none⟩),.pointer (some ⟨mh,0,none⟩)]]
 st:Sits w mh 120 #[.func (.func 59) #[] #[.pointer (some ⟨sB,0,none⟩)]]
theorem zu.below {w w':World} {sB mh mB:Nat} (h:zu w sB mh mB) (hb:Below w.heap.size w w'):zu w' sB mh mB:=⟨h.s.below hb h.s.lt,h.st.below hb h.st.lt⟩
theorem Dl:Expr.Enters 59:=enters_of Tryz.func59 (by kernel_rfl) rfl
theorem vB:Expr.Enters 60:=enters_of Tryz.func60 (by kernel_rfl) rfl
def Dm (sB mh mB:Nat) (a b:az) (r:Bool):Prop:=∀ (u v:Value) (w:World),zu w sB mh mB->aR gu w a u->aR gu w b v ->
 Calls Tryz.prog 60 #[u,v,.pointer (some ⟨mB,0,none⟩),.pointer (some ⟨mh,0,none⟩)] w fun e w'=>Made (.returned (.bool r)) w e w'
def mkEq (m n:Mk):Bool:=decide (m.kind=n.kind) && decide (m.reg=n.reg) && decide (m.mode=n.mode) && decide (m.loc=n.loc) && decide (m.a=n.a) && decide (m.b=n.b)
theorem Fs (m n:Mk) (t t' e e':az):(mkEq m n && decide (t=t') && decide (e=e'))=decide (m=n/\t=t' /\ e=e'):=by
 obtain ⟨k,r,mo,x,a,b⟩:=m;obtain ⟨k',r',mo',x',a',b'⟩:=n;rw [Bool.eq_iff_iff];simp only [mkEq,Bool.and_eq_true,decide_eq_true_eq,Mk.mk.injEq,and_assoc]
def zw (w:World) (m n:Mk) (pa pb pa' pb':Option Addr) (tv ev tv' ev':Value):World :=
 (w.alloc (.cells #[.int .u8 m.kind,.int .u8 m.reg,.int .u8 m.mode,.int .u8 m.loc,.pointer pa,.pointer pb,tv,ev] 119)).alloc (.cells #[.int .u8 n.kind,.int .u8 n.reg,.int .u8 n.mode,.int .u8 n.loc,.pointer pa',.pointer pb',tv',ev'] 119)
structure Two (w0:World) (sB mh mB g1 g2:Nat) (c1 c2:Array Value) (t e t' e':az) (tv ev tv' ev':Value) (a b a' b':Option Ex) (va vb xQ Yh:Value) (W:World):Prop where
 env:zu W sB mh mB
 s1:Sits W g1 119 c1
 s2:Sits W g2 119 c2
 t:aR gu W t tv
 e:aR gu W e ev
 t':aR gu W t' tv'
 e':aR gu W e' ev'
 a:Tree W (kr a) va
 b:Tree W (kr b) vb
 a':Tree W (kr a') xQ
 b':Tree W (kr b') Yh
 low:Below w0.heap.size w0 W
section
variable {w0 : World} {sB mh mB g1 g2 : Nat} {c1 c2 : Array Value} {t e t' e' : az} {tv ev tv' ev' : Value} {a b a' b' : Option Ex} {va vb xQ Yh : Value} {W W' : World}
theorem Two.grown (h:Two w0 sB mh mB g1 g2 c1 c2 t e t' e' tv ev tv' ev' a b a' b' va vb xQ Yh W) (hb:Below W.heap.size W W'):Two w0 sB mh mB g1 g2 c1 c2 t e t' e' tv ev tv' ev' a b a' b' va vb xQ Yh W' :=
 ⟨h.env.below hb,h.s1.below hb h.s1.lt,h.s2.below hb h.s2.lt,h.t.below hb,h.e.below hb,h.t'.below hb,h.e'.below hb,h.a.below hb,h.b.below hb,h.a'.below hb,h.b'.below hb,h.low.trans (hb.mono h.low.size)⟩
end
theorem KA (m n:Mk) (t e t' e':az) (oa:okO m.a) (ob:okO m.b) (pa pb pa' pb':Option Addr) (tv ev tv' ev':Value) (w:World) (sB mh mB:Nat) (hE:zu w sB mh mB)
  (ht:aR gu w t tv) (he:aR gu w e ev) (ht':aR gu w t' tv') (he':aR gu w e' ev') (ha:Tree w (kr m.a) (.pointer pa)) (hb:Tree w (kr m.b) (.pointer pb)) (ha':Tree w (kr n.a) (.pointer pa')) (hb':Tree w (kr n.b) (.pointer pb'))
  (rt re:Bool) (HT:Dm sB mh mB t t' rt) (Vh:Dm sB mh mB e e' re) :
  Calls Tryz.prog 59 #[kZ m (.pointer pa) (.pointer pb) tv ev,kZ n (.pointer pa') (.pointer pb') tv' ev',.pointer (some ⟨sB,0,none⟩)] w fun e w'=>Made (.returned (.bool (mkEq m n && rt && re))) w e w':=by
 have hlow:Below w.heap.size w (zw w m n pa pb pa' pb' tv ev tv' ev'):=((Below.refl _ _).alloc (Nat.le_refl _) _).alloc (by simp) _;have H0:Two w sB mh mB w.heap.size (w.heap.size+1) #[.int .u8 m.kind,.int .u8 m.reg,.int .u8 m.mode,.int .u8 m.loc,.pointer pa,.pointer pb,tv,ev] #[.int .u8 n.kind,.int .u8 n.reg,.int .u8 n.mode,.int .u8 n.loc,.pointer pa',.pointer pb',tv',ev']
   t e t' e' tv ev tv' ev' m.a m.b n.a n.b (.pointer pa) (.pointer pb) (.pointer pa') (.pointer pb') (zw w m n pa pb pa' pb' tv ev tv' ev') :=
  ⟨hE.below hlow,(Sits.new _ _ _).alloc _,Sits.made (by simp) _ _,ht.below hlow,he.below hlow,ht'.below hlow,he'.below hlow,ha.below hlow,hb.below hlow,ha'.below hlow,hb'.below hlow,hlow⟩
 have HA:=hid (fun (u v:Value) (W:World) (h1:Tree W (kr m.a) u) (h2:Tree W (kr n.a) v)=>pY m.a n.a oa u v W h1 h2);have HB:=hid (fun (u v:Value) (W:World) (h1:Tree W (kr m.b) u) (h2:Tree W (kr n.b) v)=>pY m.b n.b ob u v W h1 h2);have Si:=hid H0;have Sj:=hid HT;have HRR:=hid Vh;have hen:=vB;unfold Expr.Enters at hen;have c0:=H0.s1.cell 0;obtain ⟨pt,ct,rfl,_⟩:=ht.len;obtain ⟨pe,ce,rfl,_⟩:=he.len;obtain ⟨Fu,Fv,rfl,_⟩:=ht'.len;obtain ⟨Yi,Yj,rfl,_⟩:=he'.len;have e1:=uP m.kind n.kind;have e2:=uP m.reg n.reg;have e3:=uP m.mode n.mode;have e4:=uP m.loc n.loc;have lsb:=hE.s.lt;clear H0 hlow hE ht he ht' he' ha hb ha' hb' HT Vh oa ob c0;unfold mkEq kZ;generalize decide (m.kind=n.kind)=r1 at e1 ⊢;generalize decide (m.reg=n.reg)=r2 at e2 ⊢;generalize decide (m.mode=n.mode)=r3 at e3 ⊢;generalize decide (m.loc=n.loc)=r4 at e4 ⊢;generalize decide (m.a=n.a)=r5 at HA ⊢;generalize decide (m.b=n.b)=r6 at HB ⊢;cases r1
 ·simp only [Bool.false_and]
  go_enter Tryz.func59,Tryz.ntmps59;go_wp2_with fail
  go_ret;exact ⟨rfl,Si.out.low⟩
 cases r2
 ·simp only [Bool.false_and,Bool.and_false]
  go_enter Tryz.func59,Tryz.ntmps59;go_wp2_with fail
  go_ret;exact ⟨rfl,Si.out.low⟩
 cases r3
 ·simp only [Bool.false_and,Bool.and_false]
  go_enter Tryz.func59,Tryz.ntmps59;go_wp2_with fail
  go_ret;exact ⟨rfl,Si.out.low⟩
 cases r4
 ·simp only [Bool.false_and,Bool.and_false]
  go_enter Tryz.func59,Tryz.ntmps59;go_wp2_with fail
  go_ret;exact ⟨rfl,Si.out.low⟩
 go_enter Tryz.func59,Tryz.ntmps59;go_wp2_with fail
 change Calls _ _ _ (zw w m n pa pb pa' pb' _ _ _ _) _;generalize zw w m n pa pb pa' pb' _ _ _ _=wa at Si ⊢;refine (HA.out _ _ _ Si.out.a Si.out.a').mono ?_;rintro e' w1 ⟨rfl,hb⟩;have H1:=hid (Si.out.grown hb);have d1:=H1.out.s1.cell 5;have d2:=H1.out.s2.cell 5;have l1:=H1.out.s1.lt;have l2:=H1.out.s2.lt;clear hb;cases r5
 ·go_wp2_with fail
  go_ret;exact ⟨rfl,H1.out.low⟩
 go_wp2_with fail
 refine (HB.out _ _ _ H1.out.b H1.out.b').mono ?_;rintro e' w2 ⟨rfl,hb⟩;have H2:=hid (H1.out.grown hb);have d3:=H2.out.env.s.cell 0;have d1:=H2.out.s1.cell 6;have d2:=H2.out.s2.cell 6;have l1:=H2.out.s1.lt;have l2:=H2.out.s2.lt;have l3:=H2.out.env.s.lt;clear hb;cases r6
 ·go_wp2_with fail
  go_ret;exact ⟨rfl,H2.out.low⟩
 go_wp2_with fail
 refine (Sj.out _ _ _ H2.out.env H2.out.t H2.out.t').mono ?_;rintro e' w3 ⟨rfl,hb⟩;have H3:=hid (H2.out.grown hb);have d3:=H3.out.env.s.cell 0;have d1:=H3.out.s1.cell 7;have d2:=H3.out.s2.cell 7;have l1:=H3.out.s1.lt;have l2:=H3.out.s2.lt;have l3:=H3.out.env.s.lt;clear hb;cases rt
 ·go_wp2_with fail
  go_ret;exact ⟨rfl,H3.out.low⟩
 go_wp2_with fail
 refine (HRR.out _ _ _ H3.out.env H3.out.e H3.out.e').mono ?_;rintro e' w4 ⟨rfl,hb⟩;have H4:=hid (H3.out.grown hb);clear hb d1 d2 d3;go_wp2_with fail
 go_ret;exact ⟨cZ (by simp),H4.out.low⟩
theorem QC:∀ (q r r':az),q.app r=q.app r' ↔ r=r':=by
 intro q;induction q with
 | nil=>intro r r';exact Iff.rfl
 | cons m t e q _ _ ih=>intro r r';simp only [az.app,az.cons.injEq,true_and];exact ih r r'
theorem Nk (a b:az) (hlen:a.len=b.len) (fa:a.fine) (u v:Value) (w:World) (sB mh mB:Nat) (hE:zu w sB mh mB) (ha:aR gu w a u) (hb:aR gu w b v)
  (IH:∀ c d:az,c.size<a.size->c.fine->c.over 8=false->Dm sB mh mB c d (decide (c=d))) (hov:a.over 8=false) :
  Calls Tryz.prog 63 #[u,v,.func (.func 59) #[] #[.pointer (some ⟨sB,0,none⟩)]] w fun e w'=>Made (.returned (.bool (decide (a=b)))) w e w':=by
 obtain ⟨p,cap,rfl,hl,hr⟩:=ha.rests;obtain ⟨p',cap',rfl,hl',hr'⟩:=hb.rests;have HR:=hid hr;have TV:=hid hr';have Ef:=hid IH;have qF:=hid hE;have HF:=hid fa;have Yg:=hid hov;have wh:=hid hlen;have hen:=Dl;unfold Expr.Enters at hen;have i1:(a.len:Int)<=1000000:=by omega
 rw [<- hlen];clear ha hb IH hr hr' hl hl' hE fa hov hlen;go_enter Tryz.func63,Tryz.ntmps63;go_wp2_with fail
 go_loopg [17] a.len (fun gg v17 wx=>∃ (q r r':az),gg=r.len/\a.len=q.len+r.len/\v17 = .int .i64 (q.len:Nat)/\Hid (a=q.app r)/\Hid (b=q.app r')/\Hid (uU w p a.len r q.len)/\Hid (uU w p' b.len r' q.len)/\Hid (Below w.heap.size w wx))
 case atStart=>exact ⟨az.nil,a,b,rfl,by simp [az.len],rfl,hid rfl,hid rfl,HR,TV,hid (Below.refl _ _)⟩
 case round =>
  obtain ⟨q,r,r',rfl,hlen,rfl,HE,TU,Sg,Zz,HB⟩:=hrel;cases r with
  | nil =>
   have e:a.len=q.len:=by simpa [az.len] using hlen
   have hr0:r' = .nil:=az.yT (by
    have h1:=wh.out;have h2:=congrArg az.len TU.out
    rw [az.nG] at h2;omega)
   have HEq:=hid (show a=b by rw [HE.out,TU.out,hr0]);have i4:¬ ((q.len:Int)<(a.len:Int)):=by omega
   clear e hlen hr0;go_wp2_with fail
   go_ret;exact ⟨cZ (by rw [HEq.out];simp),HB.out⟩
  | cons m t e r =>
   cases r' with
   | nil =>
    exfalso
    have h1:=wh.out;have h2:=congrArg az.len TU.out;rw [az.nG] at h2;simp only [az.len] at h2 hlen
    omega
   | cons m' t' e' r' =>
    obtain ⟨g,o,rfl,hk,hr',av,bv,tv,ev,hst,Gd,htb,zq,zt⟩:=Sg.out.next;obtain ⟨g',o',rfl,hk',hr2,Sk,Sl,tv',ev',hst',TW,TY,Nl,Nn⟩:=Zz.out.next;obtain ⟨oa,ob,Np,hmo,hlo,hki,ft,fe,fr⟩:=az.E5 (HE.out ▸ HF.out);obtain ⟨pa,rfl,_⟩:=Gd.ptr;obtain ⟨pb,rfl,_⟩:=htb.ptr;obtain ⟨pa',rfl,_⟩:=TW.ptr;obtain ⟨pb',rfl,_⟩:=TY.ptr;have og:=hid hr';have ZA:=hid hr2;have hsz:t.size<a.size/\e.size<a.size:=by rw [HE.out,az.yV];simp only [az.size];omega
    have TZ:t.over 8=false/\e.over 8=false:=by
     have h:=Yg.out;rw [HE.out,zm q _ 7] at h;simp only [az.over,Bool.or_eq_false_iff] at h
     exact ⟨BD t 7 8 (by omega) h.2.1.1,BD e 7 8 (by omega) h.2.1.2⟩
    have HD1:=hid (fun W (h:Below wr.heap.size wr W)=>KA m m' t e t' e' oa ob pa pb pa' pb' tv ev tv' ev' W sB mh mB ((qF.out.below HB.out).below h)
     ((zq.below HB.out).below h) ((zt.below HB.out).below h) ((Nl.below HB.out).below h) ((Nn.below HB.out).below h) ((Gd.below HB.out).below h) ((htb.below HB.out).below h) ((TW.below HB.out).below h) ((TY.below HB.out).below h)
     (decide (t=t')) (decide (e=e')) (Ef.out t t' hsz.1 ft TZ.1) (Ef.out e e' hsz.2 fe TZ.2))
    obtain ⟨c0,c1,c2,c3,c4,c5,c6,c7⟩:=hst.low HB.out;obtain ⟨d0,d1,d2,d3,d4,d5,d6,d7⟩:=hst'.low HB.out;have lg:=World.block_lt_of_cell? _ _ c0;have lg':=World.block_lt_of_cell? _ _ d0;obtain ⟨pt,ct,rfl,_⟩:=zq.len;obtain ⟨pe,ce,rfl,_⟩:=zt.len;obtain ⟨Fu,Fv,rfl,_⟩:=Nl.len;obtain ⟨Yi,Yj,rfl,_⟩:=Nn.len;have HEs:=hid (show a=(q.snoc m t e).app r by rw [HE.out,az.kR]);have lq:(q.len:Int)<(a.len:Int):=by omega
    have lq2:(q.len:Int)<(b.len:Int):=by omega
    have lq0:(0:Int)<=(q.len:Int):=by omega
    have yu:=hid (show a.len=(q.snoc m t e).len+r.len by rw [az.iG];simp only [az.len] at hlen;omega);have HBE:=hid (show (mkEq m m' && decide (t=t') && decide (e=e'))=true->m=m' /\ t=t' /\ e=e' from fun h=>by rw [Fs] at h;exact of_decide_eq_true h)
    have HBN:=hid (show (mkEq m m' && decide (t=t') && decide (e=e'))=false->a≠b from fun h hab=>by
     rw [Fs] at h;rw [HE.out,TU.out] at hab;have:=(QC q _ _).1 hab;injection this with h1 h2 h3 h4
     exact of_decide_eq_false h ⟨h1,h2,h3⟩)
    have eL:b.len=a.len:=wh.out.symm;have hb2:Below wr.heap.size wr (zw wr m m' pa pb pa' pb' (.slice pt t.len ct) (.slice pe e.len ce) (.slice Fu t'.len Fv) (.slice Yi e'.len Yj)):=((Below.refl _ _).alloc (Nat.le_refl _) _).alloc (by simp) _;have HB2:=hid hb2;clear hst Gd htb zq zt hr' hlen hst' TW TY Nl Nn hr2 hsz TZ ft fe fr oa ob eL hb2;unfold kZ at HD1;generalize (mkEq m m' && decide (t=t') && decide (e=e'))=r0 at HD1 HBE HBN;go_wp2_with fail
    change Calls _ _ _ (zw wr m m' pa pb pa' pb' (.slice pt t.len ct) (.slice pe e.len ce) (.slice Fu t'.len Fv) (.slice Yi e'.len Yj)) _;generalize zw wr m m' pa pb pa' pb' (.slice pt t.len ct) (.slice pe e.len ce) (.slice Fu t'.len Fv) (.slice Yi e'.len Yj)=wa at HB2 ⊢;refine (HD1.out wa HB2.out).mono ?_;rintro e'' w2 ⟨rfl,hb⟩;have HB3:=hid ((HB.out.trans (HB2.out.mono HB.out.size)).trans (hb.mono (Nat.le_trans HB.out.size HB2.out.size)));clear hb;cases r0
    ·go_wp2_with fail
     go_ret;exact ⟨cZ (by rw [decide_eq_false (HBN.out (by trivial))]),HB3.out⟩
    ·go_wp2_with fail
     go_roundg r.len
     case measure=>simp [az.len]
     case rel=>exact ⟨q.snoc m t e,r,r',rfl,yu.out,Jo q m t e,HEs,hid (by obtain ⟨rfl,rfl,rfl⟩:=HBE.out (by trivial);rw [TU.out,az.kR]),hid (by rw [az.iG];exact og.out),hid (by rw [az.iG];exact ZA.out),HB3⟩
theorem KC (sB mh mB:Nat):∀ (n:Nat) (a:az),a.size<n->a.fine->a.over 8=false->∀ b:az,Dm sB mh mB a b (decide (a=b)):=by
 intro n;induction n with
 | zero=>intro a h;omega
 | succ n ih =>
  intro a ha hf hov b u v w hE hu hv;have HD:=hid (show zn a 8 false from hov ▸ G8 (a.size+1) a (by omega) 8 (by omega));have HU:=hid hu;have qF:=hid hE;have HQ:=hid (fun (hl:a.len=b.len) (W:World) (h:Below w.heap.size w W)=>Nk a b hl hf u v W sB mh mB (hE.below h) (hu.below h) (hv.below h) (fun c d hc hcf hco=>ih c (by omega) hcf hco d) hov);obtain ⟨p,cap,rfl,hl⟩:=hu.len;obtain ⟨p',cap',rfl,hl'⟩:=hv.len;have i1:(a.len:Int)<=1000000:=by omega
  have i2:(b.len:Int)<=1000000:=by omega
  have fH:=hid (show a.len≠b.len->decide (a=b)=false from fun h=>decide_eq_false fun e=>h (by rw [e]));have en:=uP a.len b.len;by_cases hll:a.len=b.len
  ·have Vj:=hid (HQ.out hll)
   rw [<- hll] at Vj ⊢;rw [<- hll] at en;clear hE hu hv hl hl' HQ hll fH i2 en;go_enter Tryz.func60,Tryz.ntmps60;go_wp2_with fail
   refine (HD.out _ _ HU.out).mono ?_;rintro e w1 ⟨rfl,hb⟩;have HB1:=hid hb;have d3:=(qF.out.below hb).st.cell 0;have l3:=(qF.out.below hb).st.lt;clear hb;go_wp2_with fail
   refine (Vj.out _ HB1.out).mono ?_;rintro e w2 ⟨rfl,hb⟩;have HB2:=hid (HB1.out.trans (hb.mono HB1.out.size));clear hb d3;go_wp2_with fail
   go_ret;exact ⟨rfl,HB2.out⟩
  ·have ZB:=hid (fH.out hll)
   rw [decide_eq_false hll] at en;have en':((a.len:Int) != (b.len:Int))=true:=by rw [bne,en];rfl
   have ne:¬ ((a.len:Int)=(b.len:Int)):=by omega
   clear hE hu hv hl hl' HQ hll fH;go_enter Tryz.func60,Tryz.ntmps60;go_wp2_with fail
   go_ret;exact ⟨cZ (by rw [ZB.out]),Below.refl _ _⟩
end Go.Proofs.YtaanhmndeobgbaaGreatDoor.Prog
namespace Go.Proofs.YtaanhmndeobgbaaGreatDoor.Prog
open Go.RowKit Mem Go.Proofs.YtaanhmndeobgbaaGreatDoor.Expr ae Go.Lib
def aX (i:Nat × Nat):List Value:=[.int .u8 i.1,.int .u64 i.2]
def qy (w:World) (v:Value) (l:List (Nat × Nat)):Prop:=gQ gu w v l.length (l.flatMap aX)
def kN (w:World) (v:Value) (bs:List az):Prop:=∃ vs:List Value,gQ gu w v bs.length vs/\vs.length=bs.length/\∀ (i:Nat) (b:az) (u:Value),bs[i]? = some b->vs[i]? = some u->aR gu w b u
def eU (vi vt:Value) (all:Bool) (va:Value):Value:=.agg #[vi,vt,.bool all,va]
structure nO (w:World) (t:Ts) (vi vt va:Value):Prop where
 init:qy w vi t.init
 threads:kN w vt t.threads
 ask:Tree w (kr t.ask) va
structure Ts.small (t:Ts):Prop where
 init:t.init.length<=1000
 each:∀ i ∈ t.init,i.1<256/\i.2<18446744073709551616
 threads:t.threads.length<=1000
 fine:∀ b ∈ t.threads,b.fine/\b.size<=10000
 ask:okO t.ask
section
variable {w w' : World} {v : Value}
theorem qy.below {l:List (Nat × Nat)} (h:qy w v l) (hb:Below w.heap.size w w'):qy w' v l:=gQ.below h hb
theorem kN.below {bs:List az} (h:kN w v bs) (hb:Below w.heap.size w w'):kN w' v bs:=by
 obtain ⟨vs,h1,h2,h3⟩:=h;exact ⟨vs,h1.below hb,h2,fun i b u hi hu=>(h3 i b u hi hu).below hb⟩
theorem nO.below {t:Ts} {vi vt va:Value} (h:nO w t vi vt va) (hb:Below w.heap.size w w'):nO w' t vi vt va:=⟨h.init.below hb,h.threads.below hb,h.ask.below hb⟩
theorem Dn:∀ (l:List (Nat × Nat)) (k:Nat) (i:Nat × Nat),l[k]? = some i->(l.flatMap aX)[k * 2]? = some (.int .u8 i.1)/\(l.flatMap aX)[k * 2+1]? = some (.int .u64 i.2):=by
 intro l;induction l with
 | nil=>intro k i h;simp at h
 | cons x l ih =>
  intro k i h;cases k with
  | zero=>simp at h;subst h;exact ⟨rfl,rfl⟩
  | succ k =>
   have:=ih k i (by simpa using h);refine ⟨?_,?_⟩
   ·rw [show (k+1) * 2=k * 2+2 by omega];simpa [aX] using this.1
   ·rw [show (k+1) * 2+1=(k * 2+1)+2 by omega];simpa [aX] using this.2
theorem qy.at {l:List (Nat × Nat)} (h:qy w v l) {k:Nat} {i:Nat × Nat} (hk:l[k]? = some i):∃ g o cap,v = .slice (some ⟨g,o,none⟩) l.length cap/\w.cell? ⟨g,o+k * 2,none⟩=some (.int .u8 i.1)/\w.cell? ⟨g,o+k * 2+1,none⟩=some (.int .u64 i.2):=by
 rcases h with ⟨h0,_⟩ | ⟨g,o,cap,hv,_,_,hc⟩
 ·have:=(List.getElem?_eq_some_iff.1 hk).1;omega
 ·have h2:=Dn l k i hk
  exact ⟨g,o,cap,hv,hc _ _ h2.1,by rw [Nat.add_assoc];exact hc _ _ h2.2⟩
theorem kN.at {bs:List az} (h:kN w v bs) {k:Nat} {b:az} (hk:bs[k]? = some b):∃ g o cap u,v = .slice (some ⟨g,o,none⟩) bs.length cap/\w.cell? ⟨g,o+k,none⟩=some u/\aR gu w b u:=by
 obtain ⟨vs,h1,h2,h3⟩:=h;have hlt:=(List.getElem?_eq_some_iff.1 hk).1;have hu:vs[k]? = some vs[k]:=List.getElem?_eq_getElem (by omega);rcases h1 with ⟨h0,_⟩ | ⟨g,o,cap,hv,_,_,hc⟩
 ·omega
 ·exact ⟨g,o,cap,_,hv,hc _ _ hu,h3 k b _ hk hu⟩
theorem kN.len {bs:List az} (h:kN w v bs):∃ p cap,v = .slice p bs.length cap:=by
 obtain ⟨vs,h1,_⟩:=h;obtain ⟨p,cap,hv,_⟩:=h1.len;exact ⟨p,cap,hv⟩
theorem qy.len {l:List (Nat × Nat)} (h:qy w v l):∃ p cap,v = .slice p l.length cap:=by
 obtain ⟨p,cap,hv,_⟩:=gQ.len h;exact ⟨p,cap,hv⟩
end
theorem KD (vi vt va:Value) (p q:Option Addr) (n m c c':Nat) (all:Bool) (hi:vi = .slice p n c) (ht:vt = .slice q m c') (r:Option Addr) (ha:va = .pointer r) (w:World) :
  Calls Tryz.prog 31 #[eU vi vt all va] w fun e w'=>Made (.returned (.string (str (tJ all)))) w e w':=by
 subst hi ht ha;unfold eU;cases all
 all_goals
  go_enter Tryz.func31,Tryz.ntmps31;go_wp2_with fail
  go_ret;exact ⟨rfl,(Below.refl _ _).alloc (Nat.le_refl _) _⟩
structure Tx (w0:World) (bB gb gm bx:Nat) (cs:Array Value) (l:List UInt8) (W:World):Prop where
 uI:ug w0 bB l W
 q1:Sits W gb 86 #[.pointer (some ⟨bB,0,none⟩)]
 q2:Sits W gm 9 #[.string (str (indent 0))]
 box:Sits W bx 27 cs
section
variable {w0 W W' : World} {bB gb gm bx : Nat} {cs : Array Value} {l l' : List UInt8}
theorem Tx.grown (h:Tx w0 bB gb gm bx cs l W) (hb:Below W.heap.size W W'):Tx w0 bB gb gm bx cs l W' :=
 ⟨h.uI.grown hb,h.q1.below hb h.q1.lt,h.q2.below hb h.q2.lt,h.box.below hb h.box.lt⟩
theorem Tx.put (h:Tx w0 bB gb gm bx cs l W) (hB:ug w0 bB l' W') (k:gP bB W W'):Tx w0 bB gb gm bx cs l' W' :=
 ⟨hB,Sits.moved h.q1 k (by decide) (h.uI.far h.q1 (by decide)),Sits.moved h.q2 k (by decide) (h.uI.far h.q2 (by decide)),Sits.moved h.box k (by decide) (h.uI.far h.box (by decide))⟩
theorem Tx.BC (h:Tx w0 bB gb gm bx cs l W) (ws:List (List UInt8)) (vw:Value) (hw:Words W vw ws) (hn:ws.length<=100) (hlen:l.length+ws.flatten.length<=110000000000000) :
  Calls Tryz.prog 67 #[vw,.pointer (some ⟨gb,0,none⟩),.pointer (some ⟨gm,0,none⟩)] W fun e w'=>e = .returned (.tuple #[])/\Tx w0 bB gb gm bx cs (l ++ (ws.flatten ++ [10])) w':=by
 refine (zk w0 bB 0 l ws gb gm _ _ (by omega) h.uI h.q1 h.q2 hw hn hlen).mono ?_;rintro e w' ⟨rfl,hB,hM⟩;exact ⟨rfl,h.put hB hM⟩
theorem Tx.line (h:Tx w0 bB gb gm bx cs l W) (x:List UInt8) (hlen:l.length+x.length<=110000000000000) :
  Calls Tryz.prog 67 #[.slice (some ⟨W.heap.size,0,none⟩) 1 1,.pointer (some ⟨gb,0,none⟩),.pointer (some ⟨gm,0,none⟩)] (W.alloc (.cells #[.string (str x)] 9))
   fun e w'=>e = .returned (.tuple #[])/\Tx w0 bB gb gm bx cs (l ++ (x ++ [10])) w':=by
 have h1:=h.grown ((Below.refl _ _).alloc (Nat.le_refl _) (.cells #[.string (str x)] 9));have:=h1.BC [x] _ (TT W x) (by simp) (by simpa using hlen);simpa using this
end
theorem AQ (w:World):ug w w.heap.size [] (w.alloc (.cells #[.pointer none,.slice none 0 0] tB)) :=
 ⟨.inl ⟨Nat.le_refl _,.slice none 0 0,Sits.new _ _ _,World.ownsRowF_nil _ _ _ _,by simp [Value.ownBlock]⟩,(Below.refl _ _).alloc (Nat.le_refl _) _⟩
theorem vC (x n:Nat):[[105,110,105,116,32],[x.toUInt8],[32,61,32],dec n,[59]].flatten ++ [10]=iq (x,n):=by simp [iq]
theorem xR (i:Nat × Nat) (h:i.2<18446744073709551616):(iq i).length<=40:=by
 have:=lJ i.2 h;simp only [iq,List.length_cons,List.length_append,List.length_nil];omega
theorem BF (l:List (Nat × Nat)) (h:∀ i ∈ l,i.2<18446744073709551616):(l.flatMap iq).length<=40 * l.length:=by
 induction l with
 | nil=>simp
 | cons i l ih =>
  have h1:=xR i (h i List.mem_cons_self);have h2:=ih (fun j hj=>h j (List.mem_cons_of_mem _ hj));simp only [List.flatMap_cons,List.length_append,List.length_cons];omega
theorem xS (l:List az) (h:∀ b ∈ l,b.fine/\b.size<=10000):(l.flatMap gV).length<=2400000011 * l.length:=by
 induction l with
 | nil=>simp
 | cons b l ih =>
  have h1:=az.mr (h b List.mem_cons_self).1 1;have h3:=(h b List.mem_cons_self).2;have h2:=ih (fun j hj=>h j (List.mem_cons_of_mem _ hj));simp only [List.flatMap_cons,List.length_append,List.length_cons,gV,List.length_nil];omega
theorem BG {α:Type} (f:α->List UInt8) (l:List α) (k:Nat) (x:α) (h:l[k]? = some x):(l.take (k+1)).flatMap f=(l.take k).flatMap f ++ f x:=by
 obtain ⟨hlt,rfl⟩:=List.getElem?_eq_some_iff.1 h;rw [List.take_succ_eq_append_getElem hlt,List.flatMap_append];simp
def KE (w:World) (vi vt:Value) (all:Bool) (va:Value):World:=w.alloc (.cells #[vi,vt,.bool all,va] 27)
def QD (w:World) (x n:Nat):World:=w.alloc (.cells #[.int .u8 x,.int .u64 n] 78)
end Go.Proofs.YtaanhmndeobgbaaGreatDoor.Prog
