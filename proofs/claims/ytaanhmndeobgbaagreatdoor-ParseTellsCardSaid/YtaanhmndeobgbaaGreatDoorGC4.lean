/- Part 25 of the proof: what is used of the texts PtlG, PtlI. -/
import Derived.Test.YtaanhmndeobgbaaGreatDoorGC2
import Derived.Test.YtaanhmndeobgbaaGreatDoorGB3
import Derived.Test.YtaanhmndeobgbaaGreatDoorGC3
set_option maxRecDepth 100000
set_option maxHeartbeats 4000000
namespace Go.Proofs.YtaanhmndeobgbaaGreatDoor.fT
open Go.RowKit Mem Go.Proofs.YtaanhmndeobgbaaGreatDoor.Expr Prog Go.Lib ae
open Lex (Tok cO)
def rF (o:Out (List UInt8)) (x:List UInt8):Prop:=(∀ a k,o = .ok a k->x=a/\a ≠ [])/\∀ j er,o = .bad j er->x=[]
def Dv:Array Value:=#[.slice none 0 0,.int .i64 0,.int .i64 0,.int .i64 0]
def Fz (B:Nat):Value->World->Prop:=fun u W=>∃ g,u = .pointer (some ⟨g,0,none⟩)/\B<=g/\Sits W g 57 Dv
def Ho (ws:List (List UInt8)):Value->World->Prop:=fun u W=>qI W u ws
def rG (v:Value) (n:Nat) (o:Out (List UInt8)):Value->World->Prop:=fun u _=>∃ x r,u = .tuple #[.string (str x),r]/\aP v n o r/\rF o x
def xV (o:Out (List UInt8)):Value->World->Prop:=fun u _=>∃ x,u = .string (str x)/\rF o x
def rV (v:Value) (n:Nat) (o:Out (List UInt8)):Value->World->Prop:=fun u _=>aP v n o u
abbrev qa:World->World->Prop:=fun w w'=>Below w.heap.size w w'
theorem zI (B:Nat):ll qa (Fz B):=fun _ _ _ ⟨g,hu,hB,hs⟩ hb=>⟨g,hu,hB,hs.below hb hs.lt⟩
theorem xW (ws:List (List UInt8)):ll qa (Ho ws):=fun _ _ _ h hb=>qI.below h hb
theorem qb (v:Value) (n:Nat) (o:Out (List UInt8)):ll qa (rG v n o):=fun _ _ _ h _=>h
theorem yx (o:Out (List UInt8)):ll qa (xV o):=fun _ _ _ h _=>h
theorem Jy (v:Value) (n:Nat) (o:Out (List UInt8)):ll qa (rV v n o):=fun _ _ _ h _=>h
theorem aP.cells {α:Type} {v:Value} {n:Nat} {o:Out α} {u:Value} (h:aP v n o u):∃ k j e:Nat,u = .agg #[v,.int .i64 (k:Nat),.int .i64 (j:Nat),.int .i64 (e:Nat)]:=by
 cases o with
 | ok a k=>exact ⟨k,0,0,h.1⟩
 | bad j e=>obtain ⟨k,h,_⟩:=h;exact ⟨k,j,e,h⟩
def zJ (x:List UInt8):Nat:=(x.getD 1 48).toNat - 48
def QP (v:Value) (n:Nat) (o:Out (List UInt8)) (w:World) (e:Ending) (w':World):Prop:=∃ x r,e = .returned (.tuple #[.int .u8 (zJ x:Nat),r])/\aP v n o r/\rF o x/\Below w.heap.size w w'
theorem NI {α:Type} {ts:List Lex.Tok} {o:Out α} {x:List UInt8} (h:rF (o.bind fun _ k=>bg ts bE k) x) (hx:x ≠ []):x ∈ bE:=by
 cases ho:(o.bind fun _ k=>bg ts bE k) with
 | bad j e=>exact absurd (h.2 j e ho) hx
 | ok a k =>
  obtain ⟨rfl,_⟩:=h.1 a k ho;cases o with
  | bad j e=>cases ho
  | ok b k0 =>
   have ho:bg ts bE k0 = .ok x k:=ho;unfold bg at ho
   split at ho
   ·split at ho
    ·rename_i hin
     injection ho with ho _;exact ho ▸ hin
    ·cases ho
   ·cases ho
theorem KO {α:Type} {ts:List Lex.Tok} (hG:gM ts) (p:Option Addr) (c k j e:Nat) (o:Out α) (w:World) (hP:dK w (.slice p ts.length c) ts) (hR:aP (.slice p ts.length c) ts.length o (.agg #[.slice p ts.length c,.int .i64 (k:Nat),.int .i64 (j:Nat),.int .i64 (e:Nat)])) :
  Calls Tryz.prog 87 #[.agg #[.slice p ts.length c,.int .i64 (k:Nat),.int .i64 (j:Nat),.int .i64 (e:Nat)]] w (QP (.slice p ts.length c) ts.length (o.bind fun _ k=>bg ts bE k) w):=by
 have HW:=hid (fun (W:World) (uw:Value) (hl:Below w.heap.size w W) (h:qI W uw bE)=>sF (o:=o) hG W (hP.below hl) h hR);have hlow:Below w.heap.size w ((w.alloc (.cells #[.slice p ts.length c,.int .i64 (k:Nat),.int .i64 (j:Nat),.int .i64 (e:Nat)] 57)).alloc (.cells #[.slice none 0 0,.int .i64 0,.int .i64 0,.int .i64 0] 57)):=((Below.refl _ _).alloc (Nat.le_refl _) _).alloc (by simp) _;have HL:=hid hlow;have HA:=hid (show Sits ((w.alloc (.cells #[.slice p ts.length c,.int .i64 (k:Nat),.int .i64 (j:Nat),.int .i64 (e:Nat)] 57)).alloc (.cells #[.slice none 0 0,.int .i64 0,.int .i64 0,.int .i64 0] 57)) w.heap.size 57 #[.slice p ts.length c,.int .i64 (k:Nat),.int .i64 (j:Nat),.int .i64 (e:Nat)] from (Sits.new _ _ _).alloc _);have HZ:=hid (show Sits ((w.alloc (.cells #[.slice p ts.length c,.int .i64 (k:Nat),.int .i64 (j:Nat),.int .i64 (e:Nat)] 57)).alloc (.cells #[.slice none 0 0,.int .i64 0,.int .i64 0,.int .i64 0] 57)) (w.heap.size+1) 57 Dv from Sits.made (by simp) _ _);clear hP hR hlow;go_enter Tryz.func87,Tryz.ntmps87;go_wp2_with fail
 generalize (w.alloc (.cells #[.slice p ts.length c,.int .i64 (k:Nat),.int .i64 (j:Nat),.int .i64 (e:Nat)] 57)).alloc (.cells #[.slice none 0 0,.int .i64 0,.int .i64 0,.int .i64 0] 57)=w1 at HL HA HZ ⊢;generalize hgb:w.heap.size=gb at HA HZ ⊢;have di:=hid hgb;clear hgb;refine oN kE [7,8,9,6,10,11,5,4] [aV (.agg #[.slice p ts.length c,.int .i64 (k:Nat),.int .i64 (j:Nat),.int .i64 (e:Nat)]),Ho bE,rG (.slice p ts.length c) ts.length (o.bind fun _ k=>bg ts bE k),rG (.slice p ts.length c) ts.length (o.bind fun _ k=>bg ts bE k),xV (o.bind fun _ k=>bg ts bE k),rV (.slice p ts.length c) ts.length (o.bind fun _ k=>bg ts bE k),Fz (gb+2),xV (o.bind fun _ k=>bg ts bE k)] 100 [] (fun _ _=>True) (fun _ _=>False)
  (by kernel_rfl) (by kernel_rfl) (by kernel_rfl) (by kernel_rfl) (by simp) ?_ ?_ (fun o h=>absurd h (by decide)) (fun p hp=>by cases hp) (fun _ _ _ h=>h.elim) ?_
 ·simp only [List.mem_cons,List.not_mem_nil,or_false,forall_eq_or_imp,forall_eq]
  exact ⟨dx _,xW _,qb _ _ _,qb _ _ _,yx _,Jy _ _ _,zI _,yx _⟩
 ·intro i q hi _ ho A W hW hk he
  simp only [List.length_cons,List.length_nil,Nat.zero_add,Nat.reduceAdd] at hi
  have lQ:=HL.out.trans (hW.mono HL.out.size);refine .inl ?_;obtain rfl | rfl | rfl | rfl | rfl | rfl | rfl | rfl:i=0 \/ i=1 \/ i=2 \/ i=3 \/ i=4 \/ i=5 \/ i=6 \/ i=7:=by omega
  all_goals (injection ho with ho;subst ho)
  ·have t1:A.tmps[1]?.getD undef = .pointer (some ⟨gb,0,none⟩):=hk 1 (by rfl)
   have hA:=HA.out.below hW HA.out.lt;have c0:=hA.cell 0;have c1:=hA.cell 1;have c2:=hA.cell 2;have c3:=hA.cell 3;go_simp
   exact ⟨rfl,Below.refl _ _⟩
  ·go_simp
   refine Calls.mono (AX W) ?_;rintro e' w' ⟨v,rfl,hw,hb⟩;exact .inl ⟨_,rfl,hw,hb⟩
  ·have s7:A.tmps[7]?.getD undef = .agg #[.slice p ts.length c,.int .i64 (k:Nat),.int .i64 (j:Nat),.int .i64 (e:Nat)]:=he 0 (by kernel_rfl)
   have s8:qI W (A.tmps[8]?.getD undef) bE:=he 1 (by kernel_rfl);have hc:=HW.out W _ lQ s8;go_simp
   refine Calls.mono hc ?_;rintro e' w' ⟨u,x,rfl,h1,h2,h3,hb⟩;exact .inl ⟨_,rfl,⟨x,u,rfl,h1,h2,h3⟩,hb⟩
  ·have s9:rG (.slice p ts.length c) ts.length (o.bind fun _ k=>bg ts bE k) (A.tmps[9]?.getD undef) W:=he 2 (by kernel_rfl)
   go_simp
   exact ⟨s9,Below.refl _ _⟩
  ·obtain ⟨x,r,s6,h1,h2⟩:rG (.slice p ts.length c) ts.length (o.bind fun _ k=>bg ts bE k) (A.tmps[6]?.getD undef) W:=he 3 (by kernel_rfl)
   go_simp
   exact ⟨⟨x,rfl,h2⟩,Below.refl _ _⟩
  ·obtain ⟨x,r,s6,h1,h2⟩:rG (.slice p ts.length c) ts.length (o.bind fun _ k=>bg ts bE k) (A.tmps[6]?.getD undef) W:=he 3 (by kernel_rfl)
   go_simp
   exact ⟨h1,Below.refl _ _⟩
  ·have hsz:gb+2<=W.heap.size:=by have:=(HZ.out.below hW HZ.out.lt).lt;omega
   go_simp
   exact ⟨⟨_,rfl,hsz,Sits.new _ _ _⟩,(Below.refl _ _).alloc (Nat.le_refl _) _⟩
  ·have s10:xV (o.bind fun _ k=>bg ts bE k) (A.tmps[10]?.getD undef) W:=he 4 (by kernel_rfl)
   go_simp
   exact ⟨s10,Below.refl _ _⟩
 ·intro xs W hx _ _
  obtain ⟨hW,hx⟩:=hx (by decide);have x4:=hx 7 (by decide);have x5:=hx 6 (by decide);have ZN:=hx 5 (by decide);obtain ⟨x,e4,Gg⟩:xV (o.bind fun _ k=>bg ts bE k) (xs 7) W:=x4;obtain ⟨g5,e5,hg5,hs5⟩:Fz (gb+2) (xs 6) W:=x5;have hrow:aP (.slice p ts.length c) ts.length (o.bind fun _ k=>bg ts bE k) (xs 5):=ZN;have HL2:=hid (HL.out.trans (hW.mono HL.out.size));obtain ⟨k2,j2,e2,e11⟩:=hrow.cells;have dO:=hid (show aP (.slice p ts.length c) ts.length (o.bind fun _ k=>bg ts bE k) (.agg #[.slice p ts.length c,.int .i64 (k2:Nat),.int .i64 (j2:Nat),.int .i64 (e2:Nat)]) from e11 ▸ hrow);have HZ2:=hid (HZ.out.below hW HZ.out.lt);simp only [List.length_cons,List.length_nil,Nat.zero_add,Nat.reduceAdd,List.drop_succ_cons,List.drop_zero,gZ,Act.put,List.setIfInBounds_toArray,e4,e5,e11]
  obtain ⟨z0,z1,z2,z3⟩:=hs5.e4;have y0:=hs5.free 0;have y1:=hs5.free 1;have y2:=hs5.free 2;have y3:=hs5.free 3;have lz:=hs5.lt;have Fh:=hid hs5;have BM:=hid hg5;clear hs5 hg5 hx e4 e5 e11 hrow hW;by_cases hc:x=[]
  ·subst hc
   have hd:((str ([]:List UInt8)).toList == ([]:List UInt8))=true:=by simp [str]
   generalize str ([]:List UInt8)=s0 at hd;obtain ⟨q0,q1,q2,q3⟩:=HZ2.out.e4;have r0:=HZ2.out.free 0;have r1:=HZ2.out.free 1;have r2:=HZ2.out.free 2;have r3:=HZ2.out.free 3;have lr:=HZ2.out.lt;have hne:¬ (g5=gb+1):=by have:=BM.out;omega
   have hne':¬ (gb+1=g5):=by have:=BM.out;omega
   go_wp2_with fail
   go_region
   go_wp2_with fail
   have hs:=(aA ((((HZ2.out.far (p:=⟨g5,0,none⟩) hne' (.slice p ts.length c)).far (p:=⟨g5,1,none⟩) hne' (.int .i64 (k2:Nat))).far (p:=⟨g5,2,none⟩) hne' (.int .i64 (j2:Nat))).far (p:=⟨g5,3,none⟩) hne' (.int .i64 (e2:Nat))) (.slice p ts.length c) (.int .i64 (k2:Nat)) (.int .i64 (j2:Nat)) (.int .i64 (e2:Nat))).drew;have hl:=(aG (aG HL2.out (g:=g5) (by have:=BM.out;have:=di.out;omega) (.slice p ts.length c) (.int .i64 (k2:Nat)) (.int .i64 (j2:Nat)) (.int .i64 (e2:Nat))) (g:=gb+1) (by have:=di.out;omega) (.slice p ts.length c) (.int .i64 (k2:Nat)) (.int .i64 (j2:Nat)) (.int .i64 (e2:Nat))).drew;change bodyPost _ _ _ _ _ (World.drew <| aF (aF W g5 (.slice p ts.length c) (.int .i64 (k2:Nat)) (.int .i64 (j2:Nat)) (.int .i64 (e2:Nat))) (gb+1) (.slice p ts.length c) (.int .i64 (k2:Nat)) (.int .i64 (j2:Nat)) (.int .i64 (e2:Nat)));change Sits (World.drew <| aF (aF W g5 (.slice p ts.length c) (.int .i64 (k2:Nat)) (.int .i64 (j2:Nat)) (.int .i64 (e2:Nat))) (gb+1) (.slice p ts.length c) (.int .i64 (k2:Nat)) (.int .i64 (j2:Nat)) (.int .i64 (e2:Nat))) _ _ _ at hs;generalize World.drew (aF (aF W g5 (.slice p ts.length c) (.int .i64 (k2:Nat)) (.int .i64 (j2:Nat)) (.int .i64 (e2:Nat))) (gb+1) (.slice p ts.length c) (.int .i64 (k2:Nat)) (.int .i64 (j2:Nat)) (.int .i64 (e2:Nat)))=W9 at hs hl ⊢;have w0:=hs.cell 0;have w1':=hs.cell 1;have w2:=hs.cell 2;have w3:=hs.cell 3;have HF:=hid hl;clear hs hl z0 z1 z2 z3 y0 y1 y2 y3 lz q0 q1 q2 q3 r0 r1 r2 r3 lr hne hne'
   exact bodyPost_ret (v:=.tuple #[.int .u8 0,.agg #[.slice p ts.length c,.int .i64 (k2:Nat),.int .i64 (j2:Nat),.int .i64 (e2:Nat)]]) (by simp [results,Tryz.results87,go_sem,w0,w1',w2,w3]) rfl ⟨[],_,rfl,dO.out,Gg,HF.out⟩
  ·have hin:=NI Gg hc
   obtain ⟨q0,q1,q2,q3⟩:=HZ2.out.e4;have r0:=HZ2.out.free 0;have r1:=HZ2.out.free 1;have r2:=HZ2.out.free 2;have r3:=HZ2.out.free 3;have lr:=HZ2.out.lt;have hne:¬ (g5=gb+1):=by have:=BM.out;omega
   have hne':¬ (gb+1=g5):=by have:=BM.out;omega
   simp only [bE,List.mem_cons,List.not_mem_nil,or_false] at hin
   clear hc;obtain rfl | rfl | rfl | rfl | rfl | rfl | rfl | rfl:=hin
   all_goals
    simp only [str]
    go_wp2_with fail
    go_region
    go_wp2_with fail
    have hs:=(aA ((((HZ2.out.far (p:=⟨g5,0,none⟩) hne' (.slice p ts.length c)).far (p:=⟨g5,1,none⟩) hne' (.int .i64 (k2:Nat))).far (p:=⟨g5,2,none⟩) hne' (.int .i64 (j2:Nat))).far (p:=⟨g5,3,none⟩) hne' (.int .i64 (e2:Nat))) (.slice p ts.length c) (.int .i64 (k2:Nat)) (.int .i64 (j2:Nat)) (.int .i64 (e2:Nat))).drew;have hl:=(aG (aG HL2.out (g:=g5) (by have:=BM.out;have:=di.out;omega) (.slice p ts.length c) (.int .i64 (k2:Nat)) (.int .i64 (j2:Nat)) (.int .i64 (e2:Nat))) (g:=gb+1) (by have:=di.out;omega) (.slice p ts.length c) (.int .i64 (k2:Nat)) (.int .i64 (j2:Nat)) (.int .i64 (e2:Nat))).drew;change bodyPost _ _ _ _ _ (World.drew <| aF (aF W g5 (.slice p ts.length c) (.int .i64 (k2:Nat)) (.int .i64 (j2:Nat)) (.int .i64 (e2:Nat))) (gb+1) (.slice p ts.length c) (.int .i64 (k2:Nat)) (.int .i64 (j2:Nat)) (.int .i64 (e2:Nat)));change Sits (World.drew <| aF (aF W g5 (.slice p ts.length c) (.int .i64 (k2:Nat)) (.int .i64 (j2:Nat)) (.int .i64 (e2:Nat))) (gb+1) (.slice p ts.length c) (.int .i64 (k2:Nat)) (.int .i64 (j2:Nat)) (.int .i64 (e2:Nat))) _ _ _ at hs;generalize World.drew (aF (aF W g5 (.slice p ts.length c) (.int .i64 (k2:Nat)) (.int .i64 (j2:Nat)) (.int .i64 (e2:Nat))) (gb+1) (.slice p ts.length c) (.int .i64 (k2:Nat)) (.int .i64 (j2:Nat)) (.int .i64 (e2:Nat)))=W9 at hs hl ⊢;have w0:=hs.cell 0;have w1':=hs.cell 1;have w2:=hs.cell 2;have w3:=hs.cell 3;have HF:=hid hl;clear hs hl z0 z1 z2 z3 y0 y1 y2 y3 lz q0 q1 q2 q3 r0 r1 r2 r3 lr hne hne'
    exact bodyPost_ret (v:=.tuple #[.int .u8 (zJ _:Nat),.agg #[.slice p ts.length c,.int .i64 (k2:Nat),.int .i64 (j2:Nat),.int .i64 (e2:Nat)]]) (by simp [results,Tryz.results87,go_sem,w0,w1',w2,w3,zJ];rfl) rfl ⟨_,_,rfl,dO.out,Gg,HF.out⟩
def qc (v:Value) (n:Nat) (o:Out Nat) (w:World) (e:Ending) (w':World):Prop:=∃ u x,e = .returned (.tuple #[.int .u8 (x:Nat),u])/\aP v n o u/\(∀ a k,o = .ok a k->x=a)/\Below w.heap.size w w'
theorem zK {s:List UInt8} (h:s ∈ bE):iy s=some (zJ s):=by
 simp only [bE,List.mem_cons,List.not_mem_nil,or_false] at h
 obtain rfl | rfl | rfl | rfl | rfl | rfl | rfl | rfl:=h
 all_goals rfl
theorem zL {s:List UInt8} (h:s ∉ bE):iy s=none:=by
 unfold iy
 split
 ·rename_i a d
  split
  ·rename_i hc
   exfalso
   obtain ⟨rfl,h1,h2⟩:=hc;apply h;have hd:d.toNat=48 \/ d.toNat=49 \/ d.toNat=50 \/ d.toNat=51 \/ d.toNat=52 \/ d.toNat=53 \/ d.toNat=54 \/ d.toNat=55:=by omega
   have ho:∀ n:Nat,d.toNat=n->n<256->d=UInt8.ofNat n:=fun n e _=>by rw [<- e];simp
   rcases hd with e | e | e | e | e | e | e | e
   all_goals (rw [ho _ e (by decide)];decide)
  ·rfl
 ·rfl
theorem zM {α:Type} {v:Value} {ts:List Lex.Tok} {o:Out α} {u:Value} (hG:gM ts) (w:World) (hP:dK w v ts) (hR:aP v ts.length o u):Calls Tryz.prog 87 #[u] w (qc v ts.length (o.bind fun _ k=>gy ts k) w):=by
 obtain ⟨g,ob,c,rfl,_,_⟩:=hP.at_;obtain ⟨k,j,e,rfl⟩:=hR.cells;refine (KO hG _ c k j e o w hP hR).mono ?_;rintro e' w' ⟨x,r,rfl,h1,h2,hb⟩;refine ⟨r,zJ x,rfl,?_,?_,hb⟩
 ·cases o with
  | bad j e=>exact h1
  | ok a k =>
   have h1:aP _ _ (bg ts bE k) r:=h1;show aP _ _ (jF ts iy k) r
   unfold bg at h1
   split at h1
   ·rename_i hq
    split at h1
    ·rename_i hin
     rw [fM hq (zK hin)];exact h1
    ·rename_i hin
     rw [fO hq (zL hin)];exact h1
   ·rename_i hq
    rw [eO hq];exact h1
 ·intro a k ho
  cases o with
  | bad j e=>cases ho
  | ok b k0 =>
   have ho:jF ts iy k0 = .ok a k:=ho;by_cases hq:au ts k0=2
   ·by_cases hin:aj ts k0 ∈ bE
    ·rw [fM hq (zK hin)] at ho
     injection ho with ho _;have hw:(Out.ok b k0).bind (fun _ k=>bg ts bE k) = .ok (aj ts k0) (k0+1):=by show bg ts bE k0=_;unfold bg;rw [if_pos hq,if_pos hin]
     rw [(h2.1 _ _ hw).1,<- ho];rfl
    ·rw [fO hq (zL hin)] at ho;cases ho
   ·rw [eO hq] at ho;cases ho
end Go.Proofs.YtaanhmndeobgbaaGreatDoor.fT
namespace Go.Proofs.YtaanhmndeobgbaaGreatDoor.fT
open Go.RowKit Mem Go.Proofs.YtaanhmndeobgbaaGreatDoor.Expr Prog Go.Lib ae Go.Proofs.YtaanhmndeobgbaaGreatDoor.Row
open Lex (Tok cO jA)
theorem ag {w:World} {g:Nat} {t:TypeId} {a b c d:Value} (h:Sits w g t #[a,b,c,d]):w.cell? ⟨g,0,none⟩=some a/\w.cell? ⟨g,1,none⟩=some b/\w.cell? ⟨g,2,none⟩=some c/\w.cell? ⟨g,3,none⟩=some d/\g<w.heap.size:=⟨h.cell 0,h.cell 1,h.cell 2,h.cell 3,h.lt⟩
theorem aL {w:World} {g:Nat} {t:TypeId} {cs:Array Value} (h:Sits w g t cs):w.frozen? ⟨g,0,none⟩=false/\w.frozen? ⟨g,1,none⟩=false/\w.frozen? ⟨g,2,none⟩=false/\w.frozen? ⟨g,3,none⟩=false:=⟨h.free 0,h.free 1,h.free 2,h.free 3⟩
theorem gq {W:World} {g:Nat} {t:TypeId} {css:List Value} (h:Sits W g t css.toArray):Lay W (some ⟨g,0,none⟩) css:=fun j u hu=>⟨g,0,rfl,h.lt,by
 rw [Nat.zero_add,h.cell j]
 simpa using hu⟩
def qd (i:Nat):List (List UInt8):=((List.range i).filter fun j=>decide (j≠17)).map fun j=>[UInt8.ofNat (97+j)]
def bD:List (List UInt8):=qd 26
theorem NJ {w:World} (c:Nat) (hc:c<256):(convert 87 9 (.slice (some ⟨w.heap.size,0,none⟩) 1 1)).run Tryz.prog (w.alloc (.cells #[.int .u8 (c:Nat)] 5)) = .ok (.string (str [UInt8.ofNat c])) (w.alloc (.cells #[.int .u8 (c:Nat)] 5)):=by
 refine run_convert_bytes_back (P:=Tryz.prog) _ 87 9 5 ⟨w.heap.size,0,none⟩ 1 [UInt8.ofNat c] Tryz.underlying87 Tryz.underlying5 Tryz.underlying9 (fun j hj=>?_);have hj0:j=0:=by simpa using hj
 subst hj0;have:=(Sits.new w 5 #[.int .u8 (c:Nat)]).cell 0;have e:((UInt8.ofNat c).toNat:Int)=(c:Int):=by simp;omega
 show _=some (Value.int .u8 ((UInt8.ofNat c).toNat:Int))
 rw [e];exact this
def qf (ws:List (List UInt8)):List Value:=ws.map fun x => .string (str x)
theorem QQ:(Tryz.prog.info? 9).map (fun i=>(i.zero,i.size,i.bytes))=some (some (.string ⟨#[]⟩),1,16):=by kernel_rfl
theorem NK:mU Tryz.prog 73 9 1 16:=eX Tryz.underlying73 QQ (by rfl) (by decide)
theorem BN {B:Nat} {w:World} {r:Option Addr} {d:Nat} {ws:List (List UInt8)} (h:cz 9 1 B w r ws.length d (qf ws)) (h0:ws ≠ []) (hn:ws.length<=1000):qI w (.slice r ws.length d) ws:=by
 have key:∀ i x,ws[i]? = some x->∃ g o,r=some ⟨g,o,none⟩/\w.cell? ⟨g,o+i,none⟩=some (.string (str x)):=fun i x hx=>by
  obtain ⟨g,o,e,_,hc⟩:=h.lay i (.string (str x)) (by unfold qf;rw [List.getElem?_map,hx];rfl);exact ⟨g,o,e,hc⟩
 obtain ⟨x,l,rfl⟩:∃ x l,ws=x :: l:=by cases ws with
  | nil=>exact absurd rfl h0
  | cons x l=>exact ⟨x,l,rfl⟩
 obtain ⟨g,o,rfl,_⟩:=key 0 x rfl;refine ⟨g,o,d,rfl,hn,fun i y hy=>?_⟩;obtain ⟨g',o',e,hc⟩:=key i y hy;injection e with e;injection e with e1 e2;subst e1 e2;exact hc
theorem AZ (w:World):Calls Tryz.prog 54 #[] w (BL bD w):=by
 go_enter Tryz.func54,Tryz.ntmps54;go_wp2_with fail
 go_loopg [1,2] 26 (fun gg v1 v2 wx=>∃ (i:Nat) (r:Option Addr) (d:Nat),i<=26/\gg=26 - i/\v2 = .int .u8 (97+i:Nat)/\v1 = .slice r (qd i).length d/\Hid (cz 9 1 w.heap.size wx r (qd i).length d (qf (qd i)))/\Hid (Below w.heap.size w wx))
 case atStart=>exact ⟨0,none,0,by omega,by omega,rfl,rfl,hid (eY _ _ _ _),hid (Below.refl _ _)⟩
 case round =>
  obtain ⟨i,r,d,hi,rfl,rfl,rfl,HC,HB⟩:=hrel;by_cases ZO:i=26
  ·subst ZO
   have HX:=hid (BN HC.out (by decide) (by decide));generalize hz:qd 26=ws at HC HX ⊢;go_wp2_with fail
   go_ret;exact ⟨_,rfl,by unfold bD;rw [hz];exact HX.out,HB.out⟩
  ·have HI:=hid (show i<26 by omega)
   by_cases ZP:i=17
   ·subst ZP
    clear ZO hi;generalize hz:qd 17=ws at HC ⊢;go_wp2_with fail
    go_roundg 8
    case measure=>omega
    case rel=>exact ⟨18,r,d,by omega,rfl,rfl,by rw [<- hz];rfl,by rw [show qd 18=qd 17 by decide,hz];exact HC,HB⟩
   ·have HS:Hid (qd (i+1)=qd i ++ [[UInt8.ofNat (97+i)]]):=hid (by unfold qd;rw [List.range_succ,List.filter_append,List.map_append];simp [ZP])
    have yu:Hid ((qd i).length<=26):=hid (by unfold qd;rw [List.length_map];exact Nat.le_trans (List.length_filter_le _ _) (by rw [List.length_range];omega));have b1:((97+i:Nat):Int)<=122:=by omega
    have b2:(0:Int)<=((97+i:Nat):Int):=by omega
    have b3:(((97+i:Nat):Int) != 114)=true:=by simp;omega
    clear ZO hi ZP;generalize hz:qd i=ws at HC HS yu ⊢;have hcv:=NJ (w:=wr) (97+i) (by omega);have hca:((97+i:Nat):Int)=97+(i:Int):=by omega
    rw [hca] at hcv;clear hca;generalize hsl:str [UInt8.ofNat (97+i)]=SL at hcv;have HSL:=hid hsl;clear hsl;have HB2:=hid ((aO wr (.cells #[.int .u8 (97+(i:Int))] 5)));go_wp2_with (at_builtin;refine ax NK rfl _ _ rfl (B:=w.heap.size) (r:=r) (n:=ws.length) (d:=d) (xs:=qf ws) rfl ((HC.out.below HB2.out).below (aO _ _)) (by have:=HB.out.size;simp;omega) (some ⟨wr.heap.size+1,0,none⟩) 1 1 [.string (SL)] rfl rfl (gq (Sits.made (by simp) 9 #[.string (SL)])) (by intro u hu;simp only [List.mem_cons,List.not_mem_nil,or_false] at hu;subst hu;rfl) (by have:=yu.out;unfold maxLen;omega) (by have:=yu.out;omega) ?_)
    intro r3 d3 w3 hg3 hf3 hb3 hc3
    have QR:Hid (cz 9 1 w.heap.size w3 r3 (qd (i+1)).length d3 (qf (qd (i+1)))):=hid (by
     rw [HS.out,List.length_append];unfold qf at hc3 ⊢;rw [List.map_append];rw [<- HSL.out] at hc3;exact hc3)
    have HW3:=hid (((HB.out.trans (HB2.out.mono HB.out.size)).trans ((aO _ (.cells #[.string (SL)] 9)).mono (Nat.le_trans HB.out.size HB2.out.size))).trans hb3);have HE:Hid (ws.length+1=(qd (i+1)).length):=hid (by rw [HS.out,List.length_append];rfl);clear hg3 hf3 hb3 hc3 hcv b1 b2 b3 hz;have HRF:Hid (Value.slice r3 (ws.length+1) d3 = .slice r3 (qd (i+1)).length d3):=hid (by rw [HE.out]);go_wp2_with fail
    go_roundg (26 - (i+1))
    case measure=>have:=HI.out;omega
    case rel=>exact ⟨i+1,r3,d3,HI.out,rfl,by go_num,HRF.out,QR,HW3⟩
def QS (v:Value) (n:Nat) (o:Out (List UInt8)) (w:World) (e:Ending) (w':World):Prop:=∃ x r,e = .returned (.tuple #[.int .u8 ((x.getD 0 0).toNat:Nat),r])/\aP v n o r/\rF o x/\Below w.heap.size w w'
theorem Dw {x:List UInt8} (h:x ∈ bD):∃ q,x=[q]:=by
 unfold bD qd at h;obtain ⟨j,_,rfl⟩:=List.mem_map.1 h;exact ⟨_,rfl⟩
theorem NL {q:UInt8}:[q] ∈ bD ↔ jA q=true/\q≠114:=by
 have key:∀ n:Fin 256,[UInt8.ofNat n.1] ∈ bD ↔ jA (UInt8.ofNat n.1)=true/\UInt8.ofNat n.1≠114:=by decide +kernel
 have:=key ⟨q.toNat,q.toNat_lt⟩;simpa using this
theorem NM {α:Type} {ts:List Lex.Tok} {o:Out α} {x:List UInt8} (h:rF (o.bind fun _ k=>bg ts bD k) x) (hx:x ≠ []):x ∈ bD:=by
 cases ho:(o.bind fun _ k=>bg ts bD k) with
 | bad j e=>exact absurd (h.2 j e ho) hx
 | ok a k =>
  obtain ⟨rfl,_⟩:=h.1 a k ho;cases o with
  | bad j e=>cases ho
  | ok b k0 =>
   have ho:bg ts bD k0 = .ok x k:=ho;unfold bg at ho
   split at ho
   ·split at ho
    ·rename_i hin
     injection ho with ho _;exact ho ▸ hin
    ·cases ho
   ·cases ho
theorem KP {α:Type} {ts:List Lex.Tok} (hG:gM ts) (p:Option Addr) (c k j e:Nat) (o:Out α) (w:World) (hP:dK w (.slice p ts.length c) ts) (hR:aP (.slice p ts.length c) ts.length o (.agg #[.slice p ts.length c,.int .i64 (k:Nat),.int .i64 (j:Nat),.int .i64 (e:Nat)])) :
  Calls Tryz.prog 15 #[.agg #[.slice p ts.length c,.int .i64 (k:Nat),.int .i64 (j:Nat),.int .i64 (e:Nat)]] w (QS (.slice p ts.length c) ts.length (o.bind fun _ k=>bg ts bD k) w):=by
 have HW:=hid (fun (W:World) (uw:Value) (hl:Below w.heap.size w W) (h:qI W uw bD)=>sF (o:=o) hG W (hP.below hl) h hR);have hlow:Below w.heap.size w ((w.alloc (.cells #[.slice p ts.length c,.int .i64 (k:Nat),.int .i64 (j:Nat),.int .i64 (e:Nat)] 57)).alloc (.cells #[.slice none 0 0,.int .i64 0,.int .i64 0,.int .i64 0] 57)):=((Below.refl _ _).alloc (Nat.le_refl _) _).alloc (by simp) _;have HL:=hid hlow;have HA:=hid (show Sits ((w.alloc (.cells #[.slice p ts.length c,.int .i64 (k:Nat),.int .i64 (j:Nat),.int .i64 (e:Nat)] 57)).alloc (.cells #[.slice none 0 0,.int .i64 0,.int .i64 0,.int .i64 0] 57)) w.heap.size 57 #[.slice p ts.length c,.int .i64 (k:Nat),.int .i64 (j:Nat),.int .i64 (e:Nat)] from (Sits.new _ _ _).alloc _);have HZ:=hid (show Sits ((w.alloc (.cells #[.slice p ts.length c,.int .i64 (k:Nat),.int .i64 (j:Nat),.int .i64 (e:Nat)] 57)).alloc (.cells #[.slice none 0 0,.int .i64 0,.int .i64 0,.int .i64 0] 57)) (w.heap.size+1) 57 Dv from Sits.made (by simp) _ _);clear hP hR hlow;go_enter Tryz.func15,Tryz.ntmps15;go_wp2_with fail
 generalize (w.alloc (.cells #[.slice p ts.length c,.int .i64 (k:Nat),.int .i64 (j:Nat),.int .i64 (e:Nat)] 57)).alloc (.cells #[.slice none 0 0,.int .i64 0,.int .i64 0,.int .i64 0] 57)=w1 at HL HA HZ ⊢;generalize hgb:w.heap.size=gb at HA HZ ⊢;have di:=hid hgb;clear hgb;refine oN kE [7,8,9,6,10,11,5,4] [aV (.agg #[.slice p ts.length c,.int .i64 (k:Nat),.int .i64 (j:Nat),.int .i64 (e:Nat)]),Ho bD,rG (.slice p ts.length c) ts.length (o.bind fun _ k=>bg ts bD k),rG (.slice p ts.length c) ts.length (o.bind fun _ k=>bg ts bD k),xV (o.bind fun _ k=>bg ts bD k),rV (.slice p ts.length c) ts.length (o.bind fun _ k=>bg ts bD k),Fz (gb+2),xV (o.bind fun _ k=>bg ts bD k)] 100 [] (fun _ _=>True) (fun _ _=>False)
  (by kernel_rfl) (by kernel_rfl) (by kernel_rfl) (by kernel_rfl) (by simp) ?_ ?_ (fun o h=>absurd h (by decide)) (fun p hp=>by cases hp) (fun _ _ _ h=>h.elim) ?_
 ·simp only [List.mem_cons,List.not_mem_nil,or_false,forall_eq_or_imp,forall_eq]
  exact ⟨dx _,xW _,qb _ _ _,qb _ _ _,yx _,Jy _ _ _,zI _,yx _⟩
 ·intro i q hi _ ho A W hW hk he
  simp only [List.length_cons,List.length_nil,Nat.zero_add,Nat.reduceAdd] at hi
  have lQ:=HL.out.trans (hW.mono HL.out.size);refine .inl ?_;obtain rfl | rfl | rfl | rfl | rfl | rfl | rfl | rfl:i=0 \/ i=1 \/ i=2 \/ i=3 \/ i=4 \/ i=5 \/ i=6 \/ i=7:=by omega
  all_goals (injection ho with ho;subst ho)
  ·have t1:A.tmps[1]?.getD undef = .pointer (some ⟨gb,0,none⟩):=hk 1 (by rfl)
   have hA:=HA.out.below hW HA.out.lt;have c0:=hA.cell 0;have c1:=hA.cell 1;have c2:=hA.cell 2;have c3:=hA.cell 3;go_simp
   exact ⟨rfl,Below.refl _ _⟩
  ·go_simp
   refine Calls.mono (AZ W) ?_;rintro e' w' ⟨v,rfl,hw,hb⟩;exact .inl ⟨_,rfl,hw,hb⟩
  ·have s7:A.tmps[7]?.getD undef = .agg #[.slice p ts.length c,.int .i64 (k:Nat),.int .i64 (j:Nat),.int .i64 (e:Nat)]:=he 0 (by kernel_rfl)
   have s8:qI W (A.tmps[8]?.getD undef) bD:=he 1 (by kernel_rfl);have hc:=HW.out W _ lQ s8;go_simp
   refine Calls.mono hc ?_;rintro e' w' ⟨u,x,rfl,h1,h2,h3,hb⟩;exact .inl ⟨_,rfl,⟨x,u,rfl,h1,h2,h3⟩,hb⟩
  ·have s9:rG (.slice p ts.length c) ts.length (o.bind fun _ k=>bg ts bD k) (A.tmps[9]?.getD undef) W:=he 2 (by kernel_rfl)
   go_simp
   exact ⟨s9,Below.refl _ _⟩
  ·obtain ⟨x,r,s6,h1,h2⟩:rG (.slice p ts.length c) ts.length (o.bind fun _ k=>bg ts bD k) (A.tmps[6]?.getD undef) W:=he 3 (by kernel_rfl)
   go_simp
   exact ⟨⟨x,rfl,h2⟩,Below.refl _ _⟩
  ·obtain ⟨x,r,s6,h1,h2⟩:rG (.slice p ts.length c) ts.length (o.bind fun _ k=>bg ts bD k) (A.tmps[6]?.getD undef) W:=he 3 (by kernel_rfl)
   go_simp
   exact ⟨h1,Below.refl _ _⟩
  ·have hsz:gb+2<=W.heap.size:=by have:=(HZ.out.below hW HZ.out.lt).lt;omega
   go_simp
   exact ⟨⟨_,rfl,hsz,Sits.new _ _ _⟩,(Below.refl _ _).alloc (Nat.le_refl _) _⟩
  ·have s10:xV (o.bind fun _ k=>bg ts bD k) (A.tmps[10]?.getD undef) W:=he 4 (by kernel_rfl)
   go_simp
   exact ⟨s10,Below.refl _ _⟩
 ·intro xs W hx _ _
  obtain ⟨hW,hx⟩:=hx (by decide);have x4:=hx 7 (by decide);have x5:=hx 6 (by decide);have ZN:=hx 5 (by decide);obtain ⟨x,e4,Gg⟩:xV (o.bind fun _ k=>bg ts bD k) (xs 7) W:=x4;obtain ⟨g5,e5,hg5,hs5⟩:Fz (gb+2) (xs 6) W:=x5;have hrow:aP (.slice p ts.length c) ts.length (o.bind fun _ k=>bg ts bD k) (xs 5):=ZN;have HL2:=hid (HL.out.trans (hW.mono HL.out.size));obtain ⟨k2,j2,e2,e11⟩:=hrow.cells;have dO:=hid (show aP (.slice p ts.length c) ts.length (o.bind fun _ k=>bg ts bD k) (.agg #[.slice p ts.length c,.int .i64 (k2:Nat),.int .i64 (j2:Nat),.int .i64 (e2:Nat)]) from e11 ▸ hrow);have HZ2:=hid (HZ.out.below hW HZ.out.lt);simp only [List.length_cons,List.length_nil,Nat.zero_add,Nat.reduceAdd,List.drop_succ_cons,List.drop_zero,gZ,Act.put,List.setIfInBounds_toArray,e4,e5,e11]
  obtain ⟨z0,z1,z2,z3⟩:=hs5.e4;have y0:=hs5.free 0;have y1:=hs5.free 1;have y2:=hs5.free 2;have y3:=hs5.free 3;have lz:=hs5.lt;have Fh:=hid hs5;have BM:=hid hg5;clear hs5 hg5 hx e4 e5 e11 hrow hW;by_cases hc:x=[]
  ·subst hc
   have hd:((str ([]:List UInt8)).toList == ([]:List UInt8))=true:=by simp [str]
   generalize str ([]:List UInt8)=s0 at hd;obtain ⟨q0,q1,q2,q3⟩:=HZ2.out.e4;have r0:=HZ2.out.free 0;have r1:=HZ2.out.free 1;have r2:=HZ2.out.free 2;have r3:=HZ2.out.free 3;have lr:=HZ2.out.lt;have hne:¬ (g5=gb+1):=by have:=BM.out;omega
   have hne':¬ (gb+1=g5):=by have:=BM.out;omega
   go_wp2_with fail
   go_region
   go_wp2_with fail
   have hs:=(aA ((((HZ2.out.far (p:=⟨g5,0,none⟩) hne' (.slice p ts.length c)).far (p:=⟨g5,1,none⟩) hne' (.int .i64 (k2:Nat))).far (p:=⟨g5,2,none⟩) hne' (.int .i64 (j2:Nat))).far (p:=⟨g5,3,none⟩) hne' (.int .i64 (e2:Nat))) (.slice p ts.length c) (.int .i64 (k2:Nat)) (.int .i64 (j2:Nat)) (.int .i64 (e2:Nat))).drew;have hl:=(aG (aG HL2.out (g:=g5) (by have:=BM.out;have:=di.out;omega) (.slice p ts.length c) (.int .i64 (k2:Nat)) (.int .i64 (j2:Nat)) (.int .i64 (e2:Nat))) (g:=gb+1) (by have:=di.out;omega) (.slice p ts.length c) (.int .i64 (k2:Nat)) (.int .i64 (j2:Nat)) (.int .i64 (e2:Nat))).drew;change bodyPost _ _ _ _ _ (World.drew <| aF (aF W g5 (.slice p ts.length c) (.int .i64 (k2:Nat)) (.int .i64 (j2:Nat)) (.int .i64 (e2:Nat))) (gb+1) (.slice p ts.length c) (.int .i64 (k2:Nat)) (.int .i64 (j2:Nat)) (.int .i64 (e2:Nat)));change Sits (World.drew <| aF (aF W g5 (.slice p ts.length c) (.int .i64 (k2:Nat)) (.int .i64 (j2:Nat)) (.int .i64 (e2:Nat))) (gb+1) (.slice p ts.length c) (.int .i64 (k2:Nat)) (.int .i64 (j2:Nat)) (.int .i64 (e2:Nat))) _ _ _ at hs;generalize World.drew (aF (aF W g5 (.slice p ts.length c) (.int .i64 (k2:Nat)) (.int .i64 (j2:Nat)) (.int .i64 (e2:Nat))) (gb+1) (.slice p ts.length c) (.int .i64 (k2:Nat)) (.int .i64 (j2:Nat)) (.int .i64 (e2:Nat)))=W9 at hs hl ⊢;have w0:=hs.cell 0;have w1':=hs.cell 1;have w2:=hs.cell 2;have w3:=hs.cell 3;have HF:=hid hl;clear hs hl z0 z1 z2 z3 y0 y1 y2 y3 lz q0 q1 q2 q3 r0 r1 r2 r3 lr hne hne'
   exact bodyPost_ret (v:=.tuple #[.int .u8 0,.agg #[.slice p ts.length c,.int .i64 (k2:Nat),.int .i64 (j2:Nat),.int .i64 (e2:Nat)]]) (by simp [results,Tryz.results15,go_sem,w0,w1',w2,w3]) rfl ⟨[],_,rfl,dO.out,Gg,HF.out⟩
  ·have hin:=NM Gg hc
   obtain ⟨q0,q1,q2,q3⟩:=HZ2.out.e4;have r0:=HZ2.out.free 0;have r1:=HZ2.out.free 1;have r2:=HZ2.out.free 2;have r3:=HZ2.out.free 3;have lr:=HZ2.out.lt;have hne:¬ (g5=gb+1):=by have:=BM.out;omega
   have hne':¬ (gb+1=g5):=by have:=BM.out;omega
   obtain ⟨q,rfl⟩:=Dw hin;clear hc hin;have hsl:(str [q]).size=1:=by simp [str,ByteArray.size]
   have hbd:0<(str [q]).size:=by omega
   have hd:(str [q])[0]'hbd=q:=by simp [str];rfl
   have hd2:((str [q]).toList == ([]:List UInt8))=false:=by simp [str]
   generalize str [q]=S at hsl hbd hd hd2;go_wp2_with fail
   go_region
   go_wp2_with fail
   have hs:=(aA ((((HZ2.out.far (p:=⟨g5,0,none⟩) hne' (.slice p ts.length c)).far (p:=⟨g5,1,none⟩) hne' (.int .i64 (k2:Nat))).far (p:=⟨g5,2,none⟩) hne' (.int .i64 (j2:Nat))).far (p:=⟨g5,3,none⟩) hne' (.int .i64 (e2:Nat))) (.slice p ts.length c) (.int .i64 (k2:Nat)) (.int .i64 (j2:Nat)) (.int .i64 (e2:Nat))).drew;have hl:=(aG (aG HL2.out (g:=g5) (by have:=BM.out;have:=di.out;omega) (.slice p ts.length c) (.int .i64 (k2:Nat)) (.int .i64 (j2:Nat)) (.int .i64 (e2:Nat))) (g:=gb+1) (by have:=di.out;omega) (.slice p ts.length c) (.int .i64 (k2:Nat)) (.int .i64 (j2:Nat)) (.int .i64 (e2:Nat))).drew;change bodyPost _ _ _ _ _ (World.drew <| aF (aF W g5 (.slice p ts.length c) (.int .i64 (k2:Nat)) (.int .i64 (j2:Nat)) (.int .i64 (e2:Nat))) (gb+1) (.slice p ts.length c) (.int .i64 (k2:Nat)) (.int .i64 (j2:Nat)) (.int .i64 (e2:Nat)));change Sits (World.drew <| aF (aF W g5 (.slice p ts.length c) (.int .i64 (k2:Nat)) (.int .i64 (j2:Nat)) (.int .i64 (e2:Nat))) (gb+1) (.slice p ts.length c) (.int .i64 (k2:Nat)) (.int .i64 (j2:Nat)) (.int .i64 (e2:Nat))) _ _ _ at hs;generalize World.drew (aF (aF W g5 (.slice p ts.length c) (.int .i64 (k2:Nat)) (.int .i64 (j2:Nat)) (.int .i64 (e2:Nat))) (gb+1) (.slice p ts.length c) (.int .i64 (k2:Nat)) (.int .i64 (j2:Nat)) (.int .i64 (e2:Nat)))=W9 at hs hl ⊢;have w0:=hs.cell 0;have w1':=hs.cell 1;have w2:=hs.cell 2;have w3:=hs.cell 3;have HF:=hid hl;clear hs hl z0 z1 z2 z3 y0 y1 y2 y3 lz q0 q1 q2 q3 r0 r1 r2 r3 lr hne hne'
   exact bodyPost_ret (v:=.tuple #[.int .u8 (q.toNat:Nat),.agg #[.slice p ts.length c,.int .i64 (k2:Nat),.int .i64 (j2:Nat),.int .i64 (e2:Nat)]]) (by simp [results,Tryz.results15,go_sem,w0,w1',w2,w3]) rfl ⟨_,_,rfl,dO.out,Gg,HF.out⟩
theorem zN {q:UInt8} (h:[q] ∈ bD):nK [q]=some q.toNat:=by
 unfold nK;simp only [if_neg (NL.1 h).2]
theorem BO {ts:List Lex.Tok} (hG:gM ts) {k:Nat} (hk:au ts k=2) (h:aj ts k ∉ bD):nK (aj ts k)=none:=by
 obtain ⟨c,r,hc,hl⟩:=hG.word k hk;rw [hc] at h ⊢;unfold nK;cases r with
 | cons a r=>rfl
 | nil =>
  by_cases h4:c=114
  ·simp only [if_pos h4]
  ·exact absurd (NL.2 ⟨hl,h4⟩) h
theorem rJ {α:Type} {v:Value} {ts:List Lex.Tok} {o:Out α} {u:Value} (hG:gM ts) (w:World) (hP:dK w v ts) (hR:aP v ts.length o u):Calls Tryz.prog 15 #[u] w (qc v ts.length (o.bind fun _ k=>jo ts k) w):=by
 obtain ⟨g,ob,c,rfl,_,_⟩:=hP.at_;obtain ⟨k,j,e,rfl⟩:=hR.cells;refine (KP hG _ c k j e o w hP hR).mono ?_;rintro e' w' ⟨x,r,rfl,h1,h2,hb⟩;refine ⟨r,(x.getD 0 0).toNat,rfl,?_,?_,hb⟩
 ·cases o with
  | bad j e=>exact h1
  | ok a k =>
   have h1:aP _ _ (bg ts bD k) r:=h1;show aP _ _ (jF ts nK k) r
   unfold bg at h1
   split at h1
   ·rename_i hq
    split at h1
    ·rename_i hin
     obtain ⟨q,hq1⟩:=Dw hin;have hl:nK (aj ts k)=some q.toNat:=by
      rw [hq1] at hin ⊢;exact zN hin
     rw [fM hq hl];exact h1
    ·rename_i hin
     rw [fO hq (BO hG hq hin)];exact h1
   ·rename_i hq
    rw [eO hq];exact h1
 ·intro a k ho
  cases o with
  | bad j e=>cases ho
  | ok b k0 =>
   have ho:jF ts nK k0 = .ok a k:=ho;by_cases hq:au ts k0=2
   ·by_cases hin:aj ts k0 ∈ bD
    ·obtain ⟨q,hq1⟩:=Dw hin
     have hl:nK (aj ts k0)=some q.toNat:=by
      have hin:=hin;rw [hq1] at hin ⊢;exact zN hin
     rw [fM hq hl] at ho;injection ho with ho _;have hw:(Out.ok b k0).bind (fun _ k=>bg ts bD k) = .ok (aj ts k0) (k0+1):=by show bg ts bD k0=_;unfold bg;rw [if_pos hq,if_pos hin]
     rw [(h2.1 _ _ hw).1,<- ho,hq1];simp
    ·rw [fO hq (BO hG hq hin)] at ho;cases ho
   ·rw [eO hq] at ho;cases ho
end Go.Proofs.YtaanhmndeobgbaaGreatDoor.fT
