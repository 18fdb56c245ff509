/- Part 26 of the proof: what is used of the texts PtlJ, PtlH, PtlKa. -/
import Derived.Test.YtaanhmndeobgbaaGreatDoorGC4
import Derived.Test.YtaanhmndeobgbaaGreatDoorGC0
import Derived.Test.YtaanhmndeobgbaaGreatDoorGC1
set_option maxRecDepth 100000
set_option maxHeartbeats 2000000
namespace Go.Proofs.YtaanhmndeobgbaaGreatDoor.fT
open Go.RowKit Mem Go.Proofs.YtaanhmndeobgbaaGreatDoor.Expr Prog Go.Lib ae Go.Proofs.YtaanhmndeobgbaaGreatDoor.Row
open Lex (Tok cO jA)
def vG (L:List Nat) (i:Nat):List Value:=qf ((L.take i).map aH)
theorem Hq {L:List Nat} {i m:Nat} (h:L[i]? = some m):vG L (i+1)=vG L i ++ [.string (str (aH m))]:=by
 unfold vG qf;rw [List.take_add_one,h];simp
theorem KQ (L:List Nat):vG L L.length=qf (L.map aH):=by unfold vG;rw [List.take_length]
def uq (L:List Nat) (x:List UInt8):Nat:=(L.find? fun m=>decide (aH m=x)).getD 0
theorem Hr {L:List Nat} {x:List UInt8} {i m:Nat} (h:L[i]? = some m) (hm:aH m=x) (hb:∀ q,q<i->∀ y,L[q]? = some y->aH y≠x):uq L x=m:=by
 obtain ⟨hi,rfl⟩:=List.getElem?_eq_some_iff.1 h;unfold uq;rw [List.find?_eq_some_iff_getElem.2 ⟨by simpa using hm,i,hi,rfl,fun j hj=>by simpa using hb j hj _ (List.getElem?_eq_getElem _)⟩]
 rfl
theorem FB {L:List Nat} {x:List UInt8} (hb:∀ q,q<L.length->∀ y,L[q]? = some y->aH y≠x):uq L x=0:=by
 unfold uq
 rw [List.find?_eq_none.2 fun m hm=>by
  obtain ⟨q,hq⟩:=List.getElem?_of_mem hm
  simpa using hb q (List.getElem?_eq_some_iff.1 hq).1 m hq]
 rfl
def QT (v:Value) (n:Nat) (L:List Nat) (o:Out (List UInt8)) (w:World) (e:Ending) (w':World):Prop:=∃ x r,e = .returned (.tuple #[.int .u8 (uq L x:Nat),r])/\aP v n o r/\rF o x/\Below w.heap.size w w'
theorem Ht {α:Type} {ts:List Lex.Tok} (hG:gM ts) (p:Option Addr) (c k j e kd:Nat) (o:Out α) (L:List Nat) (w:World) (hMD:∀ W,Calls Tryz.prog 146 #[.int .u8 (kd:Nat)] W fun e w'=>∃ v,e = .returned v/\Sr w' v L/\Below W.heap.size W w') (h6:∀ m ∈ L,m<256) (h0:L ≠ [])
  (hP:dK w (.slice p ts.length c) ts) (hR:aP (.slice p ts.length c) ts.length o (.agg #[.slice p ts.length c,.int .i64 (k:Nat),.int .i64 (j:Nat),.int .i64 (e:Nat)])) :
  Calls Tryz.prog 123 #[.agg #[.slice p ts.length c,.int .i64 (k:Nat),.int .i64 (j:Nat),.int .i64 (e:Nat)],.int .u8 (kd:Nat)] w (QT (.slice p ts.length c) ts.length L (o.bind fun _ k=>bg ts (L.map aH) k) w):=by
 have HW:=hid (fun (W:World) (uw:Value) (hl:Below w.heap.size w W) (h:qI W uw (L.map aH))=>sF (o:=o) hG W (hP.below hl) h hR);have HMD:=hid hMD;have H6:=hid h6;have H0:=hid h0;have HL:=hid (show Below w.heap.size w ((w.alloc (.cells #[.slice p ts.length c,.int .i64 (k:Nat),.int .i64 (j:Nat),.int .i64 (e:Nat)] 57)).alloc (.cells #[.slice none 0 0,.int .i64 0,.int .i64 0,.int .i64 0] 57)) from ((Below.refl _ _).alloc (Nat.le_refl _) _).alloc (by simp) _);have HA:=hid (show Sits ((w.alloc (.cells #[.slice p ts.length c,.int .i64 (k:Nat),.int .i64 (j:Nat),.int .i64 (e:Nat)] 57)).alloc (.cells #[.slice none 0 0,.int .i64 0,.int .i64 0,.int .i64 0] 57)) w.heap.size 57 #[.slice p ts.length c,.int .i64 (k:Nat),.int .i64 (j:Nat),.int .i64 (e:Nat)] from (Sits.new _ _ _).alloc _);have HZ:=hid (show Sits ((w.alloc (.cells #[.slice p ts.length c,.int .i64 (k:Nat),.int .i64 (j:Nat),.int .i64 (e:Nat)] 57)).alloc (.cells #[.slice none 0 0,.int .i64 0,.int .i64 0,.int .i64 0] 57)) (w.heap.size+1) 57 #[.slice none 0 0,.int .i64 0,.int .i64 0,.int .i64 0] from Sits.made (by simp) _ _);clear hP hR hMD h6 h0;generalize (o.bind fun _ k=>bg ts (L.map aH) k)=o1 at HW ⊢;go_enter Tryz.func123,Tryz.ntmps123;go_wp2_with fail
 generalize (w.alloc (.cells #[.slice p ts.length c,.int .i64 (k:Nat),.int .i64 (j:Nat),.int .i64 (e:Nat)] 57)).alloc (.cells #[.slice none 0 0,.int .i64 0,.int .i64 0,.int .i64 0] 57)=w0 at HL HA HZ ⊢;generalize hgb:w.heap.size=gb at HA HZ ⊢;have di:=hid hgb;clear hgb;refine (HMD.out _).mono ?_;rintro x w1 ⟨lv,rfl,hm,hb⟩;obtain ⟨gm,om,cm,rfl,hl4,hmc⟩:=hm.at_;have HMC:=hid hmc;have Wq:=hid hl4;have HA:=hid (HA.out.below hb HA.out.lt);have HZ:=hid (HZ.out.below hb HZ.out.lt);have HL:=hid (HL.out.trans (hb.mono HL.out.size));clear hm hmc hl4 hb HMD;go_wp2_with fail
 go_loopg [7,8] L.length (fun gg v7 v8 wx=>∃ (i:Nat) (r:Option Addr) (d:Nat),i<=L.length/\gg=L.length - i/\v8 = .int .i64 (i:Nat)/\v7 = .slice r i d/\Hid (cz 9 1 w1.heap.size wx r i d (vG L i))/\Hid (Below w1.heap.size w1 wx))
 case atStart=>exact ⟨0,none,0,Nat.zero_le _,by omega,rfl,rfl,hid (eY _ _ _ _),hid (Below.refl _ _)⟩
 case round =>
  obtain ⟨i,r,d,hi,rfl,rfl,rfl,HC,HW1⟩:=hrel;by_cases hlt:i<L.length
  ·obtain ⟨m,L6⟩:∃ m,L[i]? = some m:=⟨_,List.getElem?_eq_getElem hlt⟩
   have c0:wr.cell? ⟨gm,om+i,none⟩=some (.int .u8 (m:Nat)):=cell_below (U:=gu) HW1.out gm trivial _ _ (HMC.out i m L6);have lg:=World.block_lt_of_cell? _ _ c0;have i1:(i:Int)<(L.length:Int):=by omega
   have i0:(0:Int)<=(i:Int):=by omega
   have l9:(L.length:Int)<=1000:=by have:=Wq.out;omega
   have HRM:=hid (fun W=>Fw m (H6.out m (List.mem_of_getElem? L6)) W);have Yq:=hid L6;have sP:=hid hlt;clear L6 hlt hi;go_wp2_with fail
   refine (HRM.out _).mono ?_;rintro x w2 ⟨rfl,hb⟩;have HW2:=hid (HW1.out.trans (hb.mono HW1.out.size));have Av:=hid (HC.out.below hb);clear hb c0 lg;have hq:(vG L i).length=i:=by have:=Av.out.len;omega
   go_wp2_with (at_builtin;refine ax NK rfl _ _ rfl (B:=w1.heap.size) (r:=r) (n:=i) (d:=d) (xs:=vG L i) rfl (Av.out.below (aO _ _)) (by have:=HW2.out.size;simp;omega) (some ⟨w2.heap.size,0,none⟩) 1 1 [.string (str (aH m))] rfl rfl (gq (Sits.new w2 9 #[.string (str (aH m))])) (by intro u hu;simp only [List.mem_cons,List.not_mem_nil,or_false] at hu;subst hu;rfl) (by have:=Wq.out;have:=sP.out;unfold maxLen;omega) (by have:=Wq.out;have:=sP.out;omega) ?_)
   intro r3 d3 w3 hg3 hf3 hb3 hc3;have QR:=hid (show cz 9 1 w1.heap.size w3 r3 (i+1) d3 (vG L (i+1)) from by rw [Hq Yq.out];exact hc3);have HW3:=hid ((HW2.out.trans ((aO w2 (.cells #[.string (str (aH m))] 9)).mono HW2.out.size)).trans hb3);clear hg3 hf3 hb3 hc3 hq;go_wp2_with fail
   go_roundg (L.length - (i+1))
   case measure=>have:=sP.out;omega
   case rel=>exact ⟨i+1,r3,d3,sP.out,rfl,by go_num,rfl,QR,HW3⟩
  ·obtain rfl:i=L.length:=by omega
   have hwr:qI wr (.slice r L.length d) (L.map aH):=by
    have h:=HC.out;rw [KQ] at h;have:=BN (ws:=L.map aH) (by rw [List.length_map];exact h) (by have:=H0.out;simpa using this) (by rw [List.length_map];exact Wq.out)
    rwa [List.length_map] at this
   obtain ⟨gw,ow,cw,ew,hwl,hwc⟩:=hwr.at_;injection ew with ew1 ew0 ew2;clear ew0 hwl;subst ew1 ew2;have HWC:=hid hwc;have NC:=hid hwr;have HA:=hid (HA.out.below HW1.out HA.out.lt);have HZ:=hid (HZ.out.below HW1.out HZ.out.lt);have HL:=hid (HL.out.trans (HW1.out.mono HL.out.size));have i1:¬ ((L.length:Int)<(L.length:Int)):=by omega
   obtain ⟨a0,a1,a2,a3,al⟩:=ag HA.out;clear hwc hwr hi hlt;go_wp2_with fail
   refine (HW.out _ _ HL.out NC.out).mono ?_;rintro x w2 ⟨u2,x2,rfl,h1,h2,h3,hb⟩;obtain ⟨k2,j2,e2,rfl⟩:=h1.cells;have dO:=hid h1;have Gg:=hid (show rF o1 x2 from ⟨h2,h3⟩);have HB2:=hid hb;have HA:=hid (HA.out.below hb HA.out.lt);have HZ:=hid (HZ.out.below hb HZ.out.lt);have HL:=hid (HL.out.trans (hb.mono HL.out.size));clear h1 h2 h3 hb a0 a1 a2 a3 al i1;go_wp2_with fail
   have hlow:=aO w2 (.cells #[.slice p ts.length c,.int .i64 (k2:Nat),.int .i64 (j2:Nat),.int .i64 (e2:Nat)] 57);have gD:=hid (Sits.new w2 57 #[.slice p ts.length c,.int .i64 (k2:Nat),.int .i64 (j2:Nat),.int .i64 (e2:Nat)]);have HA:=hid (HA.out.below hlow HA.out.lt);have HZ:=hid (HZ.out.below hlow HZ.out.lt);have HL:=hid (HL.out.trans (hlow.mono HL.out.size));have HB3:=hid (HB2.out.trans (hlow.mono HB2.out.size));change Code.wp _ _ _ _ (w2.alloc (.cells #[.slice p ts.length c,.int .i64 (k2:Nat),.int .i64 (j2:Nat),.int .i64 (e2:Nat)] 57));generalize w2.alloc (.cells #[.slice p ts.length c,.int .i64 (k2:Nat),.int .i64 (j2:Nat),.int .i64 (e2:Nat)] 57)=w3 at gD HA HZ HL HB3 ⊢;generalize w2.heap.size=g10 at gD ⊢;clear hlow;generalize hy2:str x2=y2;have ZQ:=hid hy2;clear hy2;go_wp2_with fail
   go_loopg [4,11] L.length (fun gg v4 v11 wx=>∃ (i:Nat),i<=L.length/\gg=L.length - i/\v4 = .int .u8 0/\v11 = .int .i64 (i:Nat)/\Hid (Below w3.heap.size w3 wx)/\Hid (∀ q,q<i->∀ y,L[q]? = some y->aH y≠x2))
   case atStart=>exact ⟨0,Nat.zero_le _,by omega,rfl,rfl,hid (Below.refl _ _),hid fun q h=>absurd h (by omega)⟩
   case round =>
    obtain ⟨i,hi,rfl,rfl,rfl,Py,HN⟩:=hrel;have HA:=hid (HA.out.below Py.out HA.out.lt);have HZ:=hid (HZ.out.below Py.out HZ.out.lt);have gD:=hid (gD.out.below Py.out gD.out.lt);have HL:=hid (HL.out.trans (Py.out.mono HL.out.size));obtain ⟨h0,h1,h2,h3,hl⟩:=ag gD.out;obtain ⟨z0,z1,z2,z3,zl⟩:=ag HZ.out;obtain ⟨kX,zf1,zf2,zf3⟩:=aL HZ.out;by_cases hlt:i<L.length
    ·obtain ⟨m,L6⟩:∃ m,L[i]? = some m:=⟨_,List.getElem?_eq_getElem hlt⟩
     have Pt:Below w1.heap.size w1 wr:=(HW1.out.trans (HB3.out.mono HW1.out.size)).trans (Py.out.mono (Nat.le_trans HW1.out.size HB3.out.size));have c0:wr.cell? ⟨gm,om+i,none⟩=some (.int .u8 (m:Nat)):=cell_below (U:=gu) Pt gm trivial _ _ (HMC.out i m L6);have lg:=World.block_lt_of_cell? _ _ c0;have c1:wr.cell? ⟨gw,ow+i,none⟩=some (.string (str (aH m))):=cell_below (U:=gu) (HB3.out.trans (Py.out.mono HB3.out.size)) gw trivial _ _ (HWC.out i _ (by rw [List.getElem?_map,L6];rfl));have lw:=World.block_lt_of_cell? _ _ c1;have i1:(i:Int)<(L.length:Int):=by omega
     have i0:(0:Int)<=(i:Int):=by omega
     have l9:(L.length:Int)<=1000:=by have:=Wq.out;omega
     have hd:=str_eq (aH m) x2;rw [ZQ.out] at hd;have Yq:=hid L6;have sP:=hid hlt;clear Pt L6 hlt hi;by_cases hc:aH m=x2
     ·rw [decide_eq_true hc] at hd
      have yt:=hid (Hr Yq.out hc HN.out);clear hc;generalize str (aH m)=y1 at c1 hd;go_wp2_with fail
      go_region
      go_wp2_with fail
      have hs:=(aA HZ.out (.slice p ts.length c) (.int .i64 (k2:Nat)) (.int .i64 (j2:Nat)) (.int .i64 (e2:Nat))).drew;have hl:=(aG HL.out (g:=(gb+1)) (by have:=di.out;omega) (.slice p ts.length c) (.int .i64 (k2:Nat)) (.int .i64 (j2:Nat)) (.int .i64 (e2:Nat))).drew;change bodyPost _ _ _ _ _ (World.drew <| aF wr (gb+1) (.slice p ts.length c) (.int .i64 (k2:Nat)) (.int .i64 (j2:Nat)) (.int .i64 (e2:Nat)));change Sits (World.drew <| aF wr (gb+1) (.slice p ts.length c) (.int .i64 (k2:Nat)) (.int .i64 (j2:Nat)) (.int .i64 (e2:Nat))) _ _ _ at hs;generalize World.drew (aF wr (gb+1) (.slice p ts.length c) (.int .i64 (k2:Nat)) (.int .i64 (j2:Nat)) (.int .i64 (e2:Nat)))=W9 at hs hl ⊢;obtain ⟨s0,s1,s2,s3,_⟩:=ag hs;have HF:=hid hl;clear hs hl ;exact bodyPost_ret (v:=.tuple #[.int .u8 (m:Nat),.agg #[.slice p ts.length c,.int .i64 (k2:Nat),.int .i64 (j2:Nat),.int .i64 (e2:Nat)]]) (by simp [results,Tryz.results123,go_sem,s0,s1,s2,s3]) rfl ⟨x2,_,by rw [yt.out],dO.out,Gg.out,HF.out⟩
     ·rw [decide_eq_false hc] at hd
      have HCC:=hid hc;clear hc;generalize str (aH m)=y1 at c1 hd;go_wp2_with fail
      go_roundg (L.length - (i+1))
      case measure=>have:=sP.out;omega
      case rel=>exact ⟨i+1,sP.out,rfl,rfl,by go_num,Py,hid fun q hq y hy=>by
       by_cases h:q<i
       ·exact HN.out q h y hy
       ·obtain rfl:q=i:=by omega
        have:=Yq.out.symm.trans hy;injection this with this
        exact this ▸ HCC.out⟩
    ·obtain rfl:i=L.length:=by omega
     have yt:=hid (FB HN.out);have i1:¬ ((L.length:Int)<(L.length:Int)):=by omega
     clear hlt hi;go_wp2_with fail
     go_region
     go_wp2_with fail
     have hs:=(aA HZ.out (.slice p ts.length c) (.int .i64 (k2:Nat)) (.int .i64 (j2:Nat)) (.int .i64 (e2:Nat))).drew;have hl:=(aG HL.out (g:=(gb+1)) (by have:=di.out;omega) (.slice p ts.length c) (.int .i64 (k2:Nat)) (.int .i64 (j2:Nat)) (.int .i64 (e2:Nat))).drew;change bodyPost _ _ _ _ _ (World.drew <| aF wr (gb+1) (.slice p ts.length c) (.int .i64 (k2:Nat)) (.int .i64 (j2:Nat)) (.int .i64 (e2:Nat)));change Sits (World.drew <| aF wr (gb+1) (.slice p ts.length c) (.int .i64 (k2:Nat)) (.int .i64 (j2:Nat)) (.int .i64 (e2:Nat))) _ _ _ at hs;generalize World.drew (aF wr (gb+1) (.slice p ts.length c) (.int .i64 (k2:Nat)) (.int .i64 (j2:Nat)) (.int .i64 (e2:Nat)))=W9 at hs hl ⊢;obtain ⟨s0,s1,s2,s3,_⟩:=ag hs;have HF:=hid hl;clear hs hl ;exact bodyPost_ret (v:=.tuple #[.int .u8 0,.agg #[.slice p ts.length c,.int .i64 (k2:Nat),.int .i64 (j2:Nat),.int .i64 (e2:Nat)]]) (by simp [results,Tryz.results123,go_sem,s0,s1,s2,s3]) rfl ⟨x2,_,by rw [yt.out];rfl,dO.out,Gg.out,HF.out⟩
theorem BP {kd:Nat} (h:2<=kd) (h7:kd<=7):fE kd=ui kd:=by
 obtain rfl | rfl | rfl | rfl | rfl | rfl:kd=2 \/ kd=3 \/ kd=4 \/ kd=5 \/ kd=6 \/ kd=7:=by omega
 all_goals rfl
theorem zO (kd:Nat):(∀ m ∈ fE kd,m<256)/\fE kd ≠ []:=by
 unfold fE
 (repeat' split) <;> exact ⟨by simp,by simp⟩
theorem sH {α:Type} {v:Value} {ts:List Lex.Tok} {o:Out α} {u:Value} (hG:gM ts) {kd:Nat} (hk2:2<=kd) (Vl:kd<=7) (w:World) (hP:dK w v ts) (hR:aP v ts.length o u) :
  Calls Tryz.prog 123 #[u,.int .u8 (kd:Nat)] w (qc v ts.length (o.bind fun _ k=>jc ts kd k) w):=by
 obtain ⟨g,ob,c,rfl,_,_⟩:=hP.at_;obtain ⟨k,j,e,rfl⟩:=hR.cells;refine (Ht hG _ c k j e kd o (fE kd) w (fun W=>Hm kd W) (zO kd).1 (zO kd).2 hP hR).mono ?_;rintro e' w' ⟨x,r,rfl,h1,h2,hb⟩;refine ⟨r,uq (fE kd) x,rfl,?_,?_,hb⟩
 ·cases o with
  | bad j e=>exact h1
  | ok a k =>
   have h1:aP _ _ (bg ts ((fE kd).map aH) k) r:=h1;show aP _ _ (jc ts kd k) r
   unfold jc;rw [<- BP hk2 Vl];unfold bg at h1
   split at h1
   ·rename_i hq
    split at h1
    ·rename_i hin
     obtain ⟨m,hm,he⟩:=List.mem_map.1 hin;cases hf:(fE kd).find? fun m=>decide (aH m=aj ts k) with
     | none=>exact absurd he (by simpa using List.find?_eq_none.1 hf m hm)
     | some m' =>
      rw [fM hq hf];exact h1
    ·rename_i hin
     have hf:(fE kd).find? (fun m=>decide (aH m=aj ts k))=none:=List.find?_eq_none.2 fun m hm=>by simpa using fun he=>hin (List.mem_map.2 ⟨m,hm,he⟩)
     rw [fO hq hf];exact h1
   ·rename_i hq
    rw [eO hq];exact h1
 ·intro a k ho
  cases o with
  | bad j e=>cases ho
  | ok b k0 =>
   have ho:jc ts kd k0 = .ok a k:=ho;unfold jc at ho;rw [<- BP hk2 Vl] at ho;by_cases hq:au ts k0=2
   ·cases hf:(fE kd).find? fun m=>decide (aH m=aj ts k0) with
    | none=>rw [fO hq hf] at ho;cases ho
    | some m' =>
     rw [fM hq hf] at ho;injection ho with ho _;have hm':aH m' = aj ts k0:=by simpa using List.find?_some hf
     have hw:(Out.ok b k0).bind (fun _ k=>bg ts ((fE kd).map aH) k) = .ok (aj ts k0) (k0+1):=by
      show bg ts _ k0=_
      unfold bg;rw [if_pos hq,if_pos (List.mem_map.2 ⟨m',List.mem_of_find?_eq_some hf,hm'⟩)]
     rw [(h2.1 _ _ hw).1,<- ho];unfold uq;rw [hf];rfl
   ·rw [eO hq] at ho;cases ho
end Go.Proofs.YtaanhmndeobgbaaGreatDoor.fT
namespace Go.Proofs.YtaanhmndeobgbaaGreatDoor.fT
open Go.Proofs.YtaanhmndeobgbaaGreatDoor.Expr Prog
open Lex (Tok)
section
variable {ts : List Lex.Tok} {ask : Bool}
theorem NN {e:Ex} {k k1:Nat} (h:fo ts ask k = .ok e k1):(bZ e).length=1:=by
 unfold fo at h
 (repeat' split at h)
 all_goals first
  | cases h;done
  | (injection h with h _;subst h;rfl)
  | (obtain ⟨a,_,rfl⟩:=map_ok h;rfl)
def Gl.pre:Gl->Nat
 | .loop _ _ e=>(bZ e).length
 | _=>0
theorem Jz {g:Gl} {k:Nat} {out:Out Ex} (h:Px ts ask g k out):∀ e k1,out = .ok e k1->(bZ e).length+k<=k1+g.pre:=by
 induction h with
 | leaf _ _=>intro e k1 h;have:=xO h;have:=NN h;simp only [Gl.pre];omega
 | deep _ _=>intro e k1 h;cases h
 | sign _ _ _ ih =>
  intro e k1 h;obtain ⟨a,h2,rfl⟩:=map_ok h;have:=ih _ _ h2;simp only [Gl.pre,bZ,List.length_cons] at this ⊢;omega
 | paren _ _ _ _ ih =>
  intro e k1 h;obtain ⟨k0,h2,h3⟩:=vk h;have:=ih _ _ h2;simp only [Gl.pre] at this ⊢;omega
 | first _ _ ih1 ih2 =>
  intro e k1 h;have h1:=ih1 _ _ rfl;have h2:=ih2 _ _ h;simp only [Gl.pre] at h1 h2 ⊢;omega
 | jU _ _=>intro e k1 h;cases h
 | stop _=>intro e k1 h;injection h with h h2;subst h h2;simp only [Gl.pre];omega
 | go _ _ _ ih1 ih2 =>
  intro e k1 h;have h1:=ih1 _ _ rfl;have h2:=ih2 _ _ h;simp only [Gl.pre,bZ,List.length_cons,List.length_append] at h1 h2 ⊢;omega
 | oO _ _ _=>intro e k1 h;cases h
end
end Go.Proofs.YtaanhmndeobgbaaGreatDoor.fT
namespace Go.Proofs.YtaanhmndeobgbaaGreatDoor.fT
open Go.RowKit Mem Go.Proofs.YtaanhmndeobgbaaGreatDoor.Expr Prog Go.Lib ae
open Go.Proofs.YtaanhmndeobgbaaGreatDoor.Row (Lay cellsOf bO dQ mU eX cz eY dM ax aO)
open Lex (Tok cO jA)
section
variable {P : Program} (w : World)
theorem NP (t ty e:TypeId) (i:TypeInfo) (z:Value) (size bytes:Nat) (ht:P.underlying t=some (.slice e)) (hi:P.info? e=some i) (hz:i.zero=some z) (hsize:i.size=size) (hby:i.bytes=bytes) (hzs:z.cells.size=size) (hsz:0<size)
  (p q:Option Addr) (n m c c':Nat) (xs ys:List Value) (hx:xs.length=n * size) (hy:ys.length=m * size) (hp:Lay w p xs) (hq:Lay w q ys) (hc:m=0 \/ c<n+m) (hnc:n<=c) (h1:∀ u ∈ ys,u.oneCell' = true) (h63:n+m<=maxLen) (hb:(n+m) * bytes<=140737488355328) :
  ∃ r d w',(Builtin.append_ #[t,t] ty #[.slice p n c,.slice q m c']).run P w = .ok (.slice r (n+m) d) w' /\ Below w.heap.size w w' /\ Lay w' r (xs ++ ys)/\n+m<=d /\
   ((m=0/\r=p/\d=c/\w' = w) \/ w'.ownsRow w.heap.size e size (.slice r (n+m) d) (n+m) (xs ++ ys)):=by
 subst hsize hby
 rcases Nat.eq_zero_or_pos m with rfl | hm
 ·have hy0:ys=[]:=List.eq_nil_of_length_eq_zero (by rw [hy,Nat.zero_mul])
  subst hy0;refine ⟨p,c,w,?_,Below.refl _ _,by rw [List.append_nil];exact hp,by omega,.inl ⟨rfl,rfl,rfl,rfl⟩⟩;have hs:Src P i.size t (.slice q 0 c') 0 [] w:=by
   cases q with
   | none=>exact Src.ofNil w ht c'
   | some a=>exact Src.ofSlice w ht a 0 c' [] (by simp) (by simp) (by simp)
  exact run_append_nothing w t t ty e i ht hi p n c hnc _ hs
 ·have hold:(Builtin.firstCells i.size n (.slice p n c)).run P w.drew = .ok xs.toArray w.drew:=by
   rcases Nat.eq_zero_or_pos n with rfl | hn
   ·have hx0:xs=[]:=List.eq_nil_of_length_eq_zero (by rw [hx,Nat.zero_mul])
    subst hx0;cases p with
    | none=>exact run_firstCells_none w.drew i.size 0 0 c
    | some a=>exact run_firstCells_some w.drew i.size 0 a 0 c [] (by simp) (by intro _ _ h';simp at h')
   ·have hx0:0<xs.length:=by rw [hx];exact Nat.mul_pos hn hsz
    obtain ⟨g,o,rfl,_,_⟩:=hp 0 xs[0] (List.getElem?_eq_getElem hx0);refine run_firstCells_some w.drew i.size n ⟨g,o,none⟩ n c xs hx (fun j u hu=>?_);obtain ⟨g',o',e',_,Wp⟩:=hp j u hu;injection e' with e';injection e' with e1 e2;subst e1 e2;rw [Addr.add_lit];exact Wp
  have hs:Src P i.size t (.slice q m c') m ys w:=by
   have hy0:0<ys.length:=by rw [hy];exact Nat.mul_pos hm hsz
   obtain ⟨g,o,rfl,_,_⟩:=hq 0 ys[0] (List.getElem?_eq_getElem hy0);refine Src.ofSlice w ht ⟨g,o,none⟩ m c' ys hy (fun j u hu=>?_) h1;obtain ⟨g',o',e',_,Wp⟩:=hq j u hu;injection e' with e';injection e' with e1 e2;subst e1 e2;rw [Addr.add_lit];exact Wp
  have hg:c<n+m:=by omega
  have hrun:=run_append_grow_src (P:=P) w t t ty e i z ht hi hz p n c xs hold (.slice q m c') m ys hs hg (by simp only [maxLen] at h63;omega) (growslice_fits hg hb);have hge:=grownCap_ge w (n+m) c e;have hcm:=grownCap_le_maxLen w (n+m) c e h63;have hL:(xs ++ ys).length=(n+m) * i.size:=by rw [List.length_append,hx,hy,Nat.add_mul]
  have hblk:(w.drew.alloc (.cells ((xs ++ ys).toArray ++ Builtin.zeroCells z.cells (grownCap w (n+m) c e - (n+m))) e)).heap[w.heap.size]? = some (.cells ((xs ++ ys).toArray ++ Builtin.zeroCells z.cells (grownCap w (n+m) c e - (n+m))) e (0,0)):=heap_alloc_new w.drew _;refine ⟨some ⟨w.heap.size,0,none⟩,_,_,hrun,((Below.refl _ w).drew).alloc (by simp) _,fun j u hu=>⟨w.heap.size,0,rfl,by simp,?_⟩,hge,.inr ⟨hL,.inr ⟨w.heap.size,_,_,rfl,Nat.le_refl _,hblk,hge,hcm,?_,?_⟩⟩⟩
  ·rw [Nat.zero_add,cell_of_row _ _ _ _ _ _ hblk,Array.getElem?_append_left (by simpa using (List.getElem?_eq_some_iff.1 hu).1)]
   simpa using hu
  ·rw [Array.size_append,size_zeroCells,hzs,List.size_toArray,hL,<- Nat.add_mul]
   congr 1
   omega
  ·rw [Array.toList_append,List.take_append_of_le_length (by simp [hL]),List.toList_toArray,<- hL,List.take_length]
theorem wU {P:Program} {t e:TypeId} {size bytes:Nat} (T:mU P t e size bytes) {o:Oper} {a:Act} {Y:Value->World->Prop} {Z:List PanicEntry->World->Prop} (s x:Operand)
  (ho:o.op = .call { callee:=.builtin .append,args:=#[s,x],argTypes:=#[t,t] }) {w:World} {r:Option Addr} {n:Nat} {xs:List Value} (hs:a.eval s = .slice r n n) (hl:xs.length=n * size) (h:Lay w r xs)
  (q:Option Addr) (m c:Nat) (ys:List Value) (hx:a.eval x = .slice q m c) (hy:ys.length=m * size) (hq:Lay w q ys) (h1:∀ u ∈ ys,u.oneCell' = true) (h63:n+m<=maxLen) (hb:(n+m) * bytes<=140737488355328)
  (hk:∀ r' d' w',Below w.heap.size w w' -> Lay w' r' (xs ++ ys)->(∀ g o s,r' = some ⟨g,o,s⟩->r=r' \/ w.heap.size<=g)->Y (.slice r' (n+m) d') w'):ae.dW P Y Z ((execOp a.eval o).run P w):=by
 obtain ⟨i,z,hi,hz,hs',hby,hzs⟩:=T.info;obtain ⟨r',d',w',hr,hbl,hc,_,hw⟩:=NP (P:=P) w t o.type e i z size bytes T.row hi hz hs' hby hzs T.pos r q n m n c xs ys hl hy h hq (by omega) (Nat.le_refl _) h1 h63 hb;unfold execOp;simp only [ho,resolve,invoke,builtin,Sem.run_bind,Sem.run_pure,Result.andThen_ok,List.map_toArray,List.map_cons,List.map_nil,hs,hx,hr]
 refine hk _ _ _ hbl hc fun g o s he=>?_
 rcases hw with ⟨_,h2,_⟩ | hw
 ·exact .inl h2.symm
 ·exact .inr ((dM hw).fresh g o s he).1
end
def oh (a:It):List Value:=[.int .u8 a.kind,.int .u8 a.op,.int .u64 a.n,.int .u8 a.t,.int .u8 a.i,.int .u8 a.x]
theorem qg (a:It):(oh a).length=6:=rfl
def dF (B:Nat) (w:World) (v:Value) (l:List It):Prop:=∃ r d,v = .slice r l.length d/\Lay w r (cellsOf oh l)/\∀ g o s,r=some ⟨g,o,s⟩->B<=g
theorem dF.below {B:Nat} {w w':World} {v:Value} {l:List It} (h:dF B w v l) (hb:Below w.heap.size w w'):dF B w' v l:=by
 obtain ⟨r,d,e,h,hf⟩:=h;exact ⟨r,d,e,h.below hb,hf⟩
theorem dF.low {B B':Nat} {w:World} {v:Value} {l:List It} (h:dF B w v l) (hB:B' <= B):dF B' w v l:=by
 obtain ⟨r,d,e,h,hf⟩:=h;exact ⟨r,d,e,h,fun g o s he=>Nat.le_trans hB (hf g o s he)⟩
theorem dF.nil (B:Nat) (w:World):dF B w (.slice none 0 0) []:=⟨none,0,rfl,(fun j u h=>by simp [cellsOf] at h),fun _ _ _ h=>by cases h⟩
theorem dF.one {B:Nat} {w:World} {g:Nat} {t:TypeId} {a:It} (h:Sits w g t (oh a).toArray) (hB:B<=g):dF B w (.slice (some ⟨g,0,none⟩) 1 1) [a]:=⟨_,1,rfl,by
 rw [show cellsOf oh [a]=oh a by simp [cellsOf]]
 exact gq h,fun _ _ _ he=>by injection he with he;injection he with he;exact he ▸ hB⟩
theorem rM (l:List It):∀ u ∈ cellsOf oh l,u.oneCell' = true:=fun u hu=>by
 unfold cellsOf at hu;obtain ⟨a,_,hu⟩:=List.mem_flatMap.1 hu;simp only [oh,List.mem_cons,List.not_mem_nil,or_false] at hu
 rcases hu with rfl | rfl | rfl | rfl | rfl | rfl <;> rfl
theorem dF.row {B:Nat} {w:World} {v:Value} {l:List It} (h:dF B w v l) (hn:l.length<=1000000):Expr.Row w v l:=by
 obtain ⟨r,d,rfl,h,_⟩:=h;cases l with
 | nil=>exact .inl ⟨rfl,r,d,rfl⟩
 | cons a l =>
  have key:∀ i b j,(a :: l)[i]? = some b->j<6->∃ g o,r=some ⟨g,o,none⟩/\w.cell? ⟨g,o+(i * 6+j),none⟩=(oh b)[j]?:=fun i b j hb hj=>by
   have e:=dQ qg (a :: l) i b j hb hj;have hs:(oh b)[j]? = some ((oh b)[j]'(by rw [qg];exact hj)):=List.getElem?_eq_getElem _;obtain ⟨g,o,e1,_,e2⟩:=h (i * 6+j) _ (e.trans hs);exact ⟨g,o,e1,e2.trans hs.symm⟩
  obtain ⟨g,o,rfl,_⟩:=key 0 a 0 rfl (by omega);refine .inr ⟨g,o,d,rfl,hn,fun i b hb=>?_⟩;have k':∀ j,j<6->w.cell? ⟨g,o+i * 6+j,none⟩=(oh b)[j]?:=fun j hj=>by
   obtain ⟨g',o',e,hc⟩:=key i b j hb hj;injection e with e;injection e with e1 e2;subst e1 e2;rw [Nat.add_assoc];exact hc
  exact ⟨k' 0 (by omega),k' 1 (by omega),k' 2 (by omega),k' 3 (by omega),k' 4 (by omega),k' 5 (by omega)⟩
def bY (v:Value) (n b:Nat) (o:Out Ex) (w:World) (e:Ending) (w':World):Prop :=
 ∃ lv l u,e = .returned (.tuple #[lv,u])/\aP v n o u/\dF w.heap.size w' lv l/\(∀ a k,o = .ok a k->l=bZ a)/\l.length<=b/\Below w.heap.size w w'
theorem aP.yf {α β:Type} {f:α->β} {v:Value} {n:Nat} {o:Out α} {u:Value} (h:aP v n o u):aP v n (o.map f) u:=by cases o <;> exact h
theorem bQ (w:World) (g:Nat) (a b c d:Value):aa (fun x=>x=g) w (aF w g a b c d):=((((aa.refl (fun x=>x=g) w).put (p:=⟨g,0,none⟩) (.inl rfl) a).put (p:=⟨g,1,none⟩) (.inl rfl) b).put (p:=⟨g,2,none⟩) (.inl rfl) c).put (p:=⟨g,3,none⟩) (.inl rfl) d
theorem NQ (l:List It):∀ u ∈ cellsOf oh l,(∃ x,u = .int .u8 x) \/ ∃ x,u = .int .u64 x:=fun u hu=>by
 unfold cellsOf at hu;obtain ⟨a,_,hu⟩:=List.mem_flatMap.1 hu;simp only [oh,List.mem_cons,List.not_mem_nil,or_false] at hu
 rcases hu with rfl | rfl | rfl | rfl | rfl | rfl
 all_goals first | exact .inl ⟨_,rfl⟩ | exact .inr ⟨_,rfl⟩
theorem uu {w:World} {g:Nat} {t:TypeId} {p:Option Addr} {n c:Nat} {x y z:Int} (hs:Sits w g t #[.slice p n c,.int .i64 x,.int .i64 y,.int .i64 z]) {i:Nat} {u:Value} (hc:w.cell? ⟨g,i,none⟩=some u):¬ ((∃ x,u = .int .u8 x) \/ ∃ x,u = .int .u64 x):=by
 rw [hs.cell i] at hc;rcases i with _ | _ | _ | _ | i
 ·have e:=Option.some.inj hc;subst e;rintro (⟨_,h⟩ | ⟨_,h⟩) <;> cases h
 ·have e:=Option.some.inj hc;subst e;rintro (⟨_,h⟩ | ⟨_,h⟩) <;> cases h
 ·have e:=Option.some.inj hc;subst e;rintro (⟨_,h⟩ | ⟨_,h⟩) <;> cases h
 ·have e:=Option.some.inj hc;subst e;rintro (⟨_,h⟩ | ⟨_,h⟩) <;> cases h
 ·simp at hc
theorem dF.off {B:Nat} {w W:World} {v:Value} {l:List It} {g:Nat} {t:TypeId} {p:Option Addr} {n c:Nat} {x y z:Int} (h:dF B w v l) (hs:Sits w g t #[.slice p n c,.int .i64 x,.int .i64 y,.int .i64 z]) (hk:aa (fun b=>b=g) w W):dF B W v l:=by
 obtain ⟨r,d,e,h,hf⟩:=h;refine ⟨r,d,e,fun j u hu=>?_,hf⟩;obtain ⟨g',o,e1,e2,e3⟩:=h j u hu;have hne:¬ (g' = g):=fun e=>uu hs (e ▸ e3) (NQ l u (List.mem_of_getElem? hu))
 exact ⟨g',o,e1,Nat.lt_of_lt_of_le e2 hk.size,(World.cell?_of_block (hk.block g' e2 hne)).trans e3⟩
theorem dF.put {B:Nat} {w:World} {v:Value} {l:List It} {g:Nat} {t:TypeId} {p:Option Addr} {n c:Nat} {x y z:Int} (hs:Sits w g t #[.slice p n c,.int .i64 x,.int .i64 y,.int .i64 z]) (h:dF B w v l) (a b c' d:Value):dF B (aF w g a b c' d) v l:=h.off hs (bQ w g a b c' d)
theorem hC {R:World->Prop} {W:World} {P:Program} {f:FuncId} {xs:Array Value} {Q:Ending->World->Prop} (h:R W) (k:∀ V,R V->Calls P f xs V Q):Calls P f xs W Q:=k W h
theorem hW {R:World->Prop} {W:World} {P:Program} {c:Code} {Q:Exit->Act->World->Prop} {a:Act} (h:R W) (k:∀ V,R V->c.wp P Q a V):c.wp P Q a W:=k W h
theorem hB {R:World->Prop} {W:World} {P:Program} {f:Func} {Q:Ending->World->Prop} {x:Exit} {a:Act} (h:R W) (k:∀ V,R V->bodyPost P f Q x a V):bodyPost P f Q x a W:=k W h
theorem sS {R:World->Prop} {W:World} {P:Program} {f:FuncId} {xs:Array Value} {Q:Ending->World->Prop} (h:R W) (k:∀ V,Hid (R V)->Calls P f xs V Q):Calls P f xs W Q:=k W (hid h)
theorem NR {R:World->Prop} {W:World} {P:Program} {c:Code} {Q:Exit->Act->World->Prop} {a:Act} (h:R W) (k:∀ V,Hid (R V)->c.wp P Q a V):c.wp P Q a W:=k W (hid h)
theorem oQ {R:World->Prop} {W:World} {P:Program} {f:Func} {Q:Ending->World->Prop} {x:Exit} {a:Act} (h:R W) (k:∀ V,Hid (R V)->bodyPost P f Q x a V):bodyPost P f Q x a W:=k W (hid h)
def Sx (g:Nat) (t:TypeId) (cs:Array Value) (W:World):Prop:=Sits W g t cs
theorem tS {W:World} {g:Nat} {t:TypeId} {cs:Array Value} (h:Sits W g t cs):Sx g t cs W:=h
def Cu (e:TypeId) (s B:Nat) (r:Option Addr) (n d:Nat) (xs:List Value) (W:World):Prop:=cz e s B W r n d xs
theorem tC {W:World} {e:TypeId} {s B:Nat} {r:Option Addr} {n d:Nat} {xs:List Value} (h:cz e s B W r n d xs):Cu e s B r n d xs W:=h
def Vi (B:Nat) (v:Value) (l:List It) (W:World):Prop:=dF B W v l
theorem tI {W:World} {B:Nat} {v:Value} {l:List It} (h:dF B W v l):Vi B v l W:=h
def Sz (B:Nat) (W:World):Prop:=B<=W.heap.size
theorem tZ {B:Nat} {V W:World} (h:B<=V.heap.size) (e:W.heap.size=V.heap.size):Sz B W:=show B<=W.heap.size by rw [e];exact h
def A2 (R S:World->Prop) (W:World):Prop:=Hid (R W)/\Hid (S W)
theorem dz {R S:World->Prop} {W:World} (h:R W) (k:S W):A2 R S W:=⟨h,k⟩
theorem hA {w:World} {cs:Array Value} {t:TypeId} {P:Program} {c:Code} {Q:Exit->Act->World->Prop} {a:Act} (k:∀ V,Below w.heap.size w V->Hid (Sits V w.heap.size t cs)->c.wp P Q a V):c.wp P Q a (w.alloc (.cells cs t)):=k _ (aO _ _) (Sits.new _ _ _)
theorem hAC {w:World} {cs:Array Value} {t:TypeId} {P:Program} {f:FuncId} {xs:Array Value} {Q:Ending->World->Prop} (k:∀ V,Below w.heap.size w V->Hid (Sits V w.heap.size t cs)->Calls P f xs V Q):Calls P f xs (w.alloc (.cells cs t)) Q:=k _ (aO _ _) (Sits.new _ _ _)
def bM (w:World) (p:Option Addr) (n c k j e:Nat):World:=(w.alloc (.cells #[.slice p n c,.int .i64 (k:Nat),.int .i64 (j:Nat),.int .i64 (e:Nat)] 57)).alloc (.cells #[.slice none 0 0,.int .i64 0,.int .i64 0,.int .i64 0] 57)
theorem iD (w:World) (p:Option Addr) (n c k j e:Nat):Hid (Below w.heap.size w (bM w p n c k j e))/\Hid (Sits (bM w p n c k j e) w.heap.size 57 #[.slice p n c,.int .i64 (k:Nat),.int .i64 (j:Nat),.int .i64 (e:Nat)])/\Hid (Sits (bM w p n c k j e) (w.heap.size+1) 57 #[.slice none 0 0,.int .i64 0,.int .i64 0,.int .i64 0]) :=
 ⟨((Below.refl _ _).alloc (Nat.le_refl _) _).alloc (by simp) _,(Sits.new _ _ _).alloc _,Sits.made (by simp) _ _⟩
structure oU (B:Nat) (w0 W:World) (g:Nat) (v:Value) (k j e:Nat) (V:World):Prop where
 s:Sits V g 57 #[v,.int .i64 (k:Nat),.int .i64 (j:Nat),.int .i64 (e:Nat)]
 l:Below B w0 V
 i:∀ {B':Nat} {u:Value} {l:List It},dF B' W u l->dF B' V u l
theorem oU.put {B:Nat} {w0 W:World} {g:Nat} {p:Option Addr} {n c:Nat} {x y z:Int} (hz:Sits W g 57 #[.slice p n c,.int .i64 x,.int .i64 y,.int .i64 z]) (hl:Below B w0 W) (hg:B<=g) (v:Value) (k j e:Nat):oU B w0 W g v k j e (aF W g v (.int .i64 (k:Nat)) (.int .i64 (j:Nat)) (.int .i64 (e:Nat))) :=
 ⟨aA hz _ _ _ _,aG hl hg _ _ _ _,fun h=>dF.put hz h _ _ _ _⟩
theorem oU.drew {B:Nat} {w0 W:World} {g:Nat} {p:Option Addr} {n c:Nat} {x y z:Int} (hz:Sits W g 57 #[.slice p n c,.int .i64 x,.int .i64 y,.int .i64 z]) (hl:Below B w0 W) (hg:B<=g) (v:Value) (k j e:Nat):oU B w0 W g v k j e (World.drew (aF W g v (.int .i64 (k:Nat)) (.int .i64 (j:Nat)) (.int .i64 (e:Nat)))) :=
 ⟨(aA hz _ _ _ _).drew,(aG hl hg _ _ _ _).drew,fun h=>(dF.put hz h _ _ _ _).below (Below.refl _ _).drew⟩
end Go.Proofs.YtaanhmndeobgbaaGreatDoor.fT
