/- Part 39 of the proof: what is used of the texts PtlV. -/
import Derived.Test.YtaanhmndeobgbaaGreatDoorGD7
set_option maxRecDepth 100000
set_option maxHeartbeats 8000000
namespace Go.Proofs.YtaanhmndeobgbaaGreatDoor.fT
open Go.RowKit Mem Go.Proofs.YtaanhmndeobgbaaGreatDoor.Expr Prog Go.Lib ae
open Go.Proofs.YtaanhmndeobgbaaGreatDoor.Row (Lay cellsOf bO dQ mU eX cz eY dM ax ed aO iU)
open Lex (Tok cO jA iO)
theorem OO {ts:List Lex.Tok} (hG:gM ts) {v lv:Value} {d k k4 j4 e4:Nat} {out:Out az} {l:List It} {lb:List Prog.Mark} {w W9:World} (hk:k<ts.length)
  (hvw:(∃ j er,oW ts d k = .bad j er/\out = .bad j er) \/ ∃ a t k2,oW ts d k = .ok (a,t) k2/\((aj ts k=eB/\out = .ok (.cons ⟨9,0,0,0,some a,none⟩ t .nil .nil) k2) \/ (aj ts k=uj/\aj ts k2≠jd/\out = .ok (.cons ⟨8,0,0,0,some a,none⟩ t .nil .nil) k2) \/
   (aj ts k=uj/\aj ts k2=jd/\out=(kW ts (d+1) (k2+1)).map fun e => .cons ⟨8,0,0,0,some a,none⟩ t e .nil))) (hwd:aj ts k=uj) (hr:aP v ts.length (((((ak ts [40] (k+1)).bind fun _ k=>bG ts false k).map fun _=>()).bind fun _ k=>ak ts [41] k).bind fun _ k=>kW ts (d+1) k) (.agg #[v,.int .i64 (k4:Nat),.int .i64 (j4:Nat),.int .i64 (e4:Nat)])) (hit:∀ a q,((ak ts [40] (k+1)).bind fun _ k=>bG ts false k) = .ok a q->l=bZ a) (OM:∀ a q,(((((ak ts [40] (k+1)).bind fun _ k=>bG ts false k).map fun _=>()).bind fun _ k=>ak ts [41] k).bind fun _ k=>kW ts (d+1) k) = .ok a q->lb=aS a)
  (hlb:lb.length<=ts.length+3 - (k+4)) (hne:aZ ts 2 k4 e4≠jd) (hm:o8 w.heap.size W9 lv ([(⟨8,0,0,0,l,[]⟩:Prog.Mark)] ++ lb ++ [noMark] ++ [noMark])) (hf:Below w.heap.size w W9):dP v ts.length (ts.length+3 - k) out w (.returned (.tuple #[lv,.agg #[v,.int .i64 (k4:Nat),.int .i64 (j4:Nat),.int .i64 (e4:Nat)]])) W9:=by
 have hr:=hr.as (DV ts d k);refine ⟨_,_,_,rfl,?_,hm,fun a q h=>?_,by simp only [List.length_append,List.length_cons,List.length_nil];omega,hf⟩
 ·rcases hvw with ⟨j,er,h1,rfl⟩ | ⟨a,t,k2,h1,h⟩
  ·rw [h1] at hr;exact hr
  ·rw [h1] at hr
   rcases h with ⟨h,_⟩ | ⟨_,_,rfl⟩ | ⟨_,h,_⟩
   ·exact absurd (hwd.symm.trans h) kS
   ·exact hr
   ·obtain ⟨rfl,_,rfl,_⟩:=hr.nQ
    exact absurd (kV hG ⟨_,_,rfl,by decide⟩ h) hne
 ·rcases hvw with ⟨j,er,h1,rfl⟩ | ⟨a',t,k2,h1,h2⟩
  ·cases h
  ·rcases h2 with ⟨h,_⟩ | ⟨_,_,rfl⟩ | ⟨_,h2,_⟩
   ·exact absurd (hwd.symm.trans h) kS
   ·injection h with h _
    obtain ⟨⟨q1,g1⟩,g2⟩:=uF h1;rw [<- h,hit a' q1 g1,OM t k2 g2,qi];simp [gN,Du,aS]
   ·rw [h1] at hr
    obtain ⟨rfl,_,rfl,_⟩:=hr.nQ;exact absurd (kV hG ⟨_,_,rfl,by decide⟩ h2) hne
theorem Im {ts:List Lex.Tok} {v lv:Value} {d k k4 j4 e4 k6 j6 e6:Nat} {out:Out az} {l:List It} {lb l2:List Prog.Mark} {w W9:World} (hk:k<ts.length) (UD:lb.length+(k+4)<=k4)
  (hvw:(∃ j er,oW ts d k = .bad j er/\out = .bad j er) \/ ∃ a t k2,oW ts d k = .ok (a,t) k2/\((aj ts k=eB/\out = .ok (.cons ⟨9,0,0,0,some a,none⟩ t .nil .nil) k2) \/ (aj ts k=uj/\aj ts k2≠jd/\out = .ok (.cons ⟨8,0,0,0,some a,none⟩ t .nil .nil) k2) \/
   (aj ts k=uj/\aj ts k2=jd/\out=(kW ts (d+1) (k2+1)).map fun e => .cons ⟨8,0,0,0,some a,none⟩ t e .nil))) (hwd:aj ts k=uj) (hr:aP v ts.length (((((ak ts [40] (k+1)).bind fun _ k=>bG ts false k).map fun _=>()).bind fun _ k=>ak ts [41] k).bind fun _ k=>kW ts (d+1) k) (.agg #[v,.int .i64 (k4:Nat),.int .i64 (j4:Nat),.int .i64 (e4:Nat)])) (hit:∀ a q,((ak ts [40] (k+1)).bind fun _ k=>bG ts false k) = .ok a q->l=bZ a) (OM:∀ a q,(((((ak ts [40] (k+1)).bind fun _ k=>bG ts false k).map fun _=>()).bind fun _ k=>ak ts [41] k).bind fun _ k=>kW ts (d+1) k) = .ok a q->lb=aS a) (h0:e4=0) (hel:aj ts k4=jd) (Yw:aP v ts.length (kW ts (d+1) (k4+1)) (.agg #[v,.int .i64 (k6:Nat),.int .i64 (j6:Nat),.int .i64 (e6:Nat)])) (hi2:∀ a q,kW ts (d+1) (k4+1) = .ok a q->l2=aS a) (hl2:l2.length<=ts.length+3 - (k4+1))
  (hm:o8 w.heap.size W9 lv ([(⟨8,0,0,0,l,[]⟩:Prog.Mark)] ++ lb ++ [noMark] ++ l2 ++ [noMark])) (hf:Below w.heap.size w W9):dP v ts.length (ts.length+3 - k) out w (.returned (.tuple #[lv,.agg #[v,.int .i64 (k6:Nat),.int .i64 (j6:Nat),.int .i64 (e6:Nat)]])) W9:=by
 have hr:=hr.as (DV ts d k);have hk4:=hr.lt h0;obtain ⟨p,h1,_⟩:=hr.FO h0;obtain ⟨a,t⟩:=p;have hout:out=(kW ts (d+1) (k4+1)).map fun e => .cons ⟨8,0,0,0,some a,none⟩ t e .nil:=by
  rcases hvw with ⟨j,er,h2,_⟩ | ⟨a',t',k2,h2,h⟩
  ·rw [h1] at h2;cases h2
  ·rw [h1] at h2
   injection h2 with h2 h3;injection h2 with h2 h4;subst h2 h3 h4;rcases h with ⟨h,_⟩ | ⟨_,h,_⟩ | ⟨_,_,h⟩
   ·exact absurd (hwd.symm.trans h) kS
   ·exact absurd hel h
   ·exact h
 subst hout;refine ⟨_,_,_,rfl,Yw.yf,hm,fun b q h=>?_,by simp only [List.length_append,List.length_cons,List.length_nil];omega,hf⟩;obtain ⟨e,h5,rfl⟩:=map_ok h;obtain ⟨⟨q1,g1⟩,g2⟩:=uF h1;rw [hit a q1 g1,OM t k4 g2,hi2 e q h5,qi];simp [gN,Du]
theorem Rf {ts:List Lex.Tok} (hG:gM ts) (gp op c k d:Nat) (out:Out az) (w:World) (hP:dK w (.slice (some ⟨gp,op,none⟩) ts.length c) ts) (hk:k<ts.length) (h1:aj ts k=uj) (hd:d<=8) (hx:Bx ts (.stmt d) k out) (IB:∀ k',k<k' -> FN ts gp op c k') :
  Calls Tryz.prog 55 #[.agg #[.slice (some ⟨gp,op,none⟩) ts.length c,.int .i64 (k:Nat),.int .i64 (0:Nat),.int .i64 (0:Nat)],.int .i64 (d:Nat)] w (dP (.slice (some ⟨gp,op,none⟩) ts.length c) ts.length (ts.length+3 - k) out w):=by
 have hx0:=kV hG (s:=uj) ⟨_,_,rfl,by decide⟩ h1;have hkn:k+1<ts.length:=eF hG hk (by decide) h1;have hn:ts.length<=5000:=by have:=hG.few;omega
 have YA:=hid (Ca hx (.inl h1));have UA:=hid h1
 have HT:=hid (show ∀ W,Below w.heap.size w W->Calls Tryz.prog 14 #[.agg #[.slice (some ⟨gp,op,none⟩) ts.length c,.int .i64 (k:Nat),.int .i64 (0:Nat),.int .i64 (0:Nat)],.int .u8 (2:Nat)] W fun x w'=>Made (.returned (.string ⟨#[105,102]⟩)) W x w' from fun W hl=>by
  have h:=bI _ ts k 0 0 2 W (hP.below hl) (fun _=>hk)
  rw [hx0] at h;exact h)
 have HP:=hid (fun W (hl:Below w.heap.size w W)=>hP.below hl);have nC:=hid (show ∀ W,Below w.heap.size w W->Calls Tryz.prog 16 #[.agg #[.slice (some ⟨gp,op,none⟩) ts.length c,.int .i64 ((k:Int)+1),.int .i64 (0:Nat),.int .i64 (0:Nat)],.string (str [40])] W (sD (.slice (some ⟨gp,op,none⟩) ts.length c) ts.length (ak ts [40] (k+1)) W) from fun W hl=>bF (o:=Out.ok () (k+1)) hG [40] ⟨40,[],rfl,by decide⟩ W (hP.below hl) ⟨rfl,hkn⟩)
 have zC:Hid (∀ PD op' c',(.slice (some ⟨gp,op,none⟩) ts.length c:Value) = .slice (some ⟨PD,op',none⟩) ts.length c' -> ∀ k',k<k' -> FN ts PD op' c' k'):=hid (fun PD op' c' e k' h=>by
  injection e with e _ e2;injection e with e;injection e with e3 e4;subst e2 e3 e4
  exact IB k' h)
 obtain ⟨HL,HA,HZ⟩:=iD w (some ⟨gp,op,none⟩) ts.length c k 0 0;have HN:=hid hn;have HK:=hid hk;have Ee:=hid hG;have HD:=hid hd;have k0:(0:Int)<=(k:Int):=by omega
 have k5:(k:Int)<=5000:=by omega
 have d0:(0:Int)<=(d:Int):=by omega
 have d5:(d:Int)<=8:=by omega
 clear hP hk hx0 hx h1 hkn hn hd IB;go_enter Tryz.func55,Tryz.ntmps55;go_upto_region 1 with (fail)
 change Code.wp _ _ _ _ (bM w (some ⟨gp,op,none⟩) ts.length c k 0 0);generalize bM w (some ⟨gp,op,none⟩) ts.length c k 0 0=w0 at HL HA HZ ⊢;generalize hgb:w.heap.size=gb at HA HZ ⊢;have di:=hid hgb;clear hgb;have a0:=ag HA.out;go_wp2_with fail
 refine (HT.out _ HL.out).mono ?_;rintro x w1 ⟨rfl,hb⟩;have HA:=hid (HA.out.below hb HA.out.lt);have HZ:=hid (HZ.out.below hb HZ.out.lt);have HL:=hid (HL.out.trans (hb.mono HL.out.size));clear hb a0 HT;have a0:=ag HA.out;have eZ:=aL HA.out;go_wp2_with fail
 have Gh:=hid (show gb+1<w1.heap.size from HZ.out.lt);refine hC (R:=fun V=>Hid (Sits V gb 57 #[.slice (some ⟨gp,op,none⟩) ts.length c,.int .i64 ((k:Int)+1),.int .i64 (0:Nat),.int .i64 (0:Nat)])/\Hid (Sits V (gb+1) 57 #[.slice none 0 0,.int .i64 0,.int .i64 0,.int .i64 0])/\Hid (Sits V w1.heap.size 132 #[.int .u8 8,.int .u8 0,.int .u8 0,.int .u8 0,.slice none 0 0,.slice none 0 0])/\Hid (Below w.heap.size w V)) ⟨(HA.out.put 1 _).alloc _,(HZ.out.far (by simp) _).alloc _,Sits.made (by simp) _ _,(HL.out.setCell (by have:=di.out;simp;omega) _).alloc (by have:=HL.out.size;simp;omega) _⟩ ?_;rintro w2 ⟨HA2,HZ2,wL,HL2⟩;generalize w1.heap.size=g8 at wL Gh ⊢;clear a0 eZ;refine (nC.out _ HL2.out).mono ?_;rintro x w3 ⟨u,rfl,h1,hb⟩;obtain ⟨k1,j1,e1,rfl⟩:=h1.cells;have HR1:=hid h1;have HA:=HA2;have HZ:=HZ2;have HM:=wL;have HL:=HL2;have HA:=hid (HA.out.below hb HA.out.lt);have HZ:=hid (HZ.out.below hb HZ.out.lt);have HM:=hid (HM.out.below hb HM.out.lt);have HL:=hid (HL.out.trans (hb.mono HL.out.size));clear h1 hb HA2 HZ2 wL HL2;have yh:=hid (show ¬ (g8=gb)/\¬ (gb=g8) by have:=Gh.out;omega);have a0:=ag HA.out;have eZ:=aL HA.out;go_wp2_with fail
 refine hC (dz (tS (aA HA.out _ _ _ _)) (dz (tS (bP HM.out yh.out.1 _ _ _ _)) (dz (tS (bP HZ.out (show gb+1≠gb by omega) _ _ _ _)) (aG HL.out (g:=gb) (by have:=di.out;omega) _ _ _ _)))) ?_;rintro w4 ⟨HA,HM,HZ,HL⟩;clear a0 eZ;refine (kJ hG false _ (HP.out _ HL.out) HR1.out).mono ?_;rintro x w5 ⟨lv,l,u,rfl,h1,h2,h3,h4,hb⟩;obtain ⟨k2,j2,e2,rfl⟩:=h1.cells;obtain ⟨rl,dl,rfl,q2⟩:=h2.low HL.out.size;have HR2:Hid (aP (.slice (some ⟨gp,op,none⟩) ts.length c) ts.length (((ak ts [40] (k+1)).bind fun _ k=>bG ts false k).map fun _=>()) (.agg #[.slice (some ⟨gp,op,none⟩) ts.length c,.int .i64 (k2:Nat),.int .i64 (j2:Nat),.int .i64 (e2:Nat)])):=hid h1.yf;have sU:=hid (show dF w.heap.size w5 (.slice rl l.length dl) l from ⟨rl,dl,rfl,q2⟩);have HIT:=hid (⟨h3,h4⟩:_/\_);have HA:=hid (HA.out.below hb HA.out.lt);have HZ:=hid (HZ.out.below hb HZ.out.lt);have HM:=hid (HM.out.below hb HM.out.lt);have HL:=hid (HL.out.trans (hb.mono HL.out.size));clear h1 h2 q2 h3 h4 hb;have a0:=ag HA.out;have eZ:=aL HA.out;have b0':=lu HM.out;have Lb:=vL HM.out;have ng:¬ (g8=gb):=yh.out.1;have BZ:¬ (gb=g8):=yh.out.2;go_wp2_with fail
 have hM:=bP (HM.out.put 4 (.slice rl l.length dl)) yh.out.1 (.slice (some ⟨gp,op,none⟩) ts.length c) (.int .i64 (k2:Nat)) (.int .i64 (j2:Nat)) (.int .i64 (e2:Nat));have JJ:=HA.out.far (p:=⟨g8,4,none⟩) yh.out.2 (.slice rl l.length dl);have hA:=aA JJ (.slice (some ⟨gp,op,none⟩) ts.length c) (.int .i64 (k2:Nat)) (.int .i64 (j2:Nat)) (.int .i64 (e2:Nat));have hZ:=bP (HZ.out.far (p:=⟨g8,4,none⟩) (show ¬ (gb+1=g8) by have:=Gh.out;omega) (.slice rl l.length dl)) (show gb+1≠gb by omega) (.slice (some ⟨gp,op,none⟩) ts.length c) (.int .i64 (k2:Nat)) (.int .i64 (j2:Nat)) (.int .i64 (e2:Nat));have hL:=aG (HL.out.setCell (p:=⟨g8,4,none⟩) (by have:=Gh.out;have:=di.out;simp;omega) (.slice rl l.length dl)) (g:=gb) (by have:=di.out;omega) (.slice (some ⟨gp,op,none⟩) ts.length c) (.int .i64 (k2:Nat)) (.int .i64 (j2:Nat)) (.int .i64 (e2:Nat));have Ec:=dF.put JJ (sU.out.apart (fF HM.out) (eD w5 g8 4 (.slice rl l.length dl))) (.slice (some ⟨gp,op,none⟩) ts.length c) (.int .i64 (k2:Nat)) (.int .i64 (j2:Nat)) (.int .i64 (e2:Nat));change Calls _ _ _ (aF (w5.setCell ⟨g8,4,none⟩ (.slice rl l.length dl)) gb (.slice (some ⟨gp,op,none⟩) ts.length c) (.int .i64 (k2:Nat)) (.int .i64 (j2:Nat)) (.int .i64 (e2:Nat))) _;generalize aF (w5.setCell ⟨g8,4,none⟩ (.slice rl l.length dl)) gb (.slice (some ⟨gp,op,none⟩) ts.length c) (.int .i64 (k2:Nat)) (.int .i64 (j2:Nat)) (.int .i64 (e2:Nat))=w6 at hM hA hZ hL Ec ⊢;have HM:=hid (show Sits w6 g8 132 #[.int .u8 8,.int .u8 0,.int .u8 0,.int .u8 0,.slice rl l.length dl,.slice none 0 0] from hM)
 have HZ:=hid hZ;have HL:=hid hL;have sU:=hid Ec;clear hM JJ hA hZ hL Ec a0 eZ b0' Lb ng BZ HA;refine (bF hG [41] ⟨41,[],rfl,by decide⟩ _ (HP.out _ HL.out) HR2.out).mono ?_;rintro x w7 ⟨u,rfl,h1,hb⟩;obtain ⟨k3,j3,e3,rfl⟩:=h1.cells;have HR3:=hid h1;have HZ:=hid (HZ.out.below hb HZ.out.lt);have HM:=hid (HM.out.below hb HM.out.lt);have HL:=hid (HL.out.trans (hb.mono HL.out.size));have sU:=hid (sU.out.below hb);clear h1 hb;have UB:=hid HZ.out.lt;have HQ3:=hid (fun q (h:((((ak ts [40] (k+1)).bind fun _ k=>bG ts false k).map fun _=>()).bind fun _ k=>ak ts [41] k) = .ok () q)=>(show q<ts.length from by have hh:=HR3.out;rw [h] at hh;exact hh.nQ.2.2.2));go_wp2_with fail
 refine (show Calls Tryz.prog 18 #[.agg #[.slice (some ⟨gp,op,none⟩) ts.length c,.int .i64 (k3:Nat),.int .i64 (j3:Nat),.int .i64 (e3:Nat)],.int .i64 ((d:Int)+1)] w7 _ from uE (q0:=k+4) hG zC.out (d+1) (by have:=HD.out;omega) _ (HP.out _ HL.out) HR3.out (fun a q h=>by have:=xe hG (eF hG HK.out (by decide) UA.out) h;omega)).mono ?_;rintro x w8 ⟨lv,lb,u,rfl,h1,h2,h3,h4,hb⟩;obtain ⟨k4,j4,e4,rfl⟩:=h1.cells;obtain ⟨r2,d2,cs2,rfl,hc2,hm2,_⟩:=h2.low HL.out.size;have HR4:=hid h1;have DW:=hid (⟨h3,h4⟩:_/\_);have hlow:=aO w8 (.cells #[.slice (some ⟨gp,op,none⟩) ts.length c,.int .i64 (k4:Nat),.int .i64 (j4:Nat),.int .i64 (e4:Nat)] 57);have hb2:=hb.trans (hlow.mono hb.size);have HZ:=hid (HZ.out.below hb2 HZ.out.lt);have HM:=hid (HM.out.below hb2 HM.out.lt);have HL:=hid (HL.out.trans (hb2.mono HL.out.size));have sU:=hid (sU.out.below hb2);have Av:=hid (And.intro (hc2.below hlow) (hm2.below hlow));have gD:=hid (Sits.new w8 57 #[.slice (some ⟨gp,op,none⟩) ts.length c,.int .i64 (k4:Nat),.int .i64 (j4:Nat),.int .i64 (e4:Nat)]);have Re:=hid (show gb+1<w8.heap.size from Nat.lt_of_lt_of_le UB.out hb.size);clear h1 h2 h3 h4 hb hc2 hm2 hlow hb2;go_upto_region 17 with (fail)
 change Code.wp _ _ _ _ (w8.alloc (.cells #[.slice (some ⟨gp,op,none⟩) ts.length c,.int .i64 (k4:Nat),.int .i64 (j4:Nat),.int .i64 (e4:Nat)] 57));generalize w8.alloc (.cells #[.slice (some ⟨gp,op,none⟩) ts.length c,.int .i64 (k4:Nat),.int .i64 (j4:Nat),.int .i64 (e4:Nat)] 57)=w9 at HZ HM HL sU Av gD ⊢;have Xd:=hid gD.out.lt;generalize w8.heap.size=g10 at gD Re Xd ⊢;have YB:=hid HL.out.size;have Oa:=hid (show cz 132 6 w9.heap.size (w9.alloc (.cells #[.int .u8 8,.int .u8 0,.int .u8 0,.int .u8 0,.slice rl l.length dl,.slice none 0 0] 132)) (some ⟨w9.heap.size,0,none⟩) 1 1 [.int .u8 8,.int .u8 0,.int .u8 0,.int .u8 0,.slice rl l.length dl,.slice none 0 0] from vI rfl (Sits.new w9 _ _) (Nat.le_refl _));have Hz:=hid (aO w9 (.cells #[.int .u8 8,.int .u8 0,.int .u8 0,.int .u8 0,.slice rl l.length dl,.slice none 0 0] 132));have uz:=hid (show l.length<=5001/\lb.length<=5003 from by have:=HIT.out.2;have:=DW.out.2;have:=HN.out;omega);have b0':=lu HM.out;go_wp2_with (at_builtin;refine ax nR rfl _ _ rfl (B:=w9.heap.size) (r:=some ⟨w9.heap.size,0,none⟩) (n:=1) (d:=1) (xs:=[.int .u8 8,.int .u8 0,.int .u8 0,.int .u8 0,.slice rl l.length dl,.slice none 0 0]) rfl Oa.out (by simp) r2 lb.length d2 cs2 rfl Av.out.2.len (Av.out.1.below Hz.out) Av.out.2.one (by have:=uz.out;unfold maxLen;omega) (by have:=uz.out;omega) ?_)
 intro rA dA wA H7 H9 zR zS;have SK:=hid zS;have Ma:=hid (Hz.out.trans zR);have UC:=hid (aO wA (.cells #[.int .u8 0,.int .u8 0,.int .u8 0,.int .u8 0,.slice none 0 0,.slice none 0 0] 132));clear H7 H9 zR zS b0';go_wp2_with (at_builtin;refine ax nR rfl _ _ rfl (B:=w9.heap.size) (r:=rA) (n:=1+lb.length) (d:=dA) (xs:=[.int .u8 8,.int .u8 0,.int .u8 0,.int .u8 0,.slice rl l.length dl,.slice none 0 0] ++ cs2) rfl (SK.out.below UC.out) (by have:=Ma.out.size;simp;omega) (some ⟨wA.heap.size,0,none⟩) 1 1 fQ.toList rfl rfl (gq (Sits.new wA 132 fQ)) vO (by have:=uz.out;unfold maxLen;omega) (by have:=uz.out;omega) ?_)
 intro rB dB wB Ia Ib zT uA;have hb:=Ma.out.trans ((UC.out.mono Ma.out.size).trans zT)
 have Aw:=hid (show cz 132 6 w9.heap.size wB rB (1+lb.length+1) dB (([.int .u8 8,.int .u8 0,.int .u8 0,.int .u8 0,.slice rl l.length dl,.slice none 0 0] ++ cs2) ++ fQ.toList)/\iM (fun g=>w.heap.size<=g/\(Value.slice rB (1+lb.length+1) dB).ownBlock≠some g) wB ([(⟨8,0,0,0,l,[]⟩:Prog.Mark)] ++ lb ++ [noMark]) (([.int .u8 8,.int .u8 0,.int .u8 0,.int .u8 0,.slice rl l.length dl,.slice none 0 0] ++ cs2) ++ fQ.toList) from ⟨uA,by
  have ho:=DU uA;have h0:iM (fun g=>w.heap.size<=g/\(Value.slice rB (1+lb.length+1) dB).ownBlock≠some g) w9 [(⟨8,0,0,0,l,[]⟩:Prog.Mark)] [.int .u8 8,.int .u8 0,.int .u8 0,.int .u8 0,.slice rl l.length dl,.slice none 0 0]:=⟨.slice rl l.length dl,.slice none 0 0,[],rfl,(vW.of sU.out).aside ho,⟨dF.nil _ _,fun h=>absurd rfl h⟩,⟨by show l.length<=10000;have:=uz.out;omega,by simp⟩,rfl⟩
  have h2:iM (fun g=>w.heap.size<=g/\(Value.slice rB (1+lb.length+1) dB).ownBlock≠some g) w9 lb cs2:=Av.out.2.imp fun _ _ h=>h.aside ho
  exact ((h0.append h2).below hb).append rQ⟩)
 have HZ:=hid (HZ.out.below hb HZ.out.lt);have gD:=hid (gD.out.below hb gD.out.lt);have HL:=hid (HL.out.trans (hb.mono HL.out.size));have Gf:=hid hb.size;clear Ia Ib zT uA hb SK Ma UC Oa Hz HM sU Av;have Rh:=hid (show lb.length<=5003 from uz.out.2);have Gi:=hid (show gb+1<g10/\g10<w9.heap.size from ⟨Re.out,Xd.out⟩);generalize hcs:(([.int .u8 8,.int .u8 0,.int .u8 0,.int .u8 0,.slice rl l.length dl,.slice none 0 0] ++ cs2) ++ fQ.toList)=UE at Aw;clear hcs;have y0:=ag gD.out;go_wp2_with fail
 refine (bI _ ts k4 j4 e4 2 _ (HP.out _ HL.out) HR4.out.lt).mono ?_;rintro x wC ⟨rfl,hb⟩;have HZ:=hid (HZ.out.below hb HZ.out.lt);have gD:=hid (gD.out.below hb gD.out.lt);have HL:=hid (HL.out.trans (hb.mono HL.out.size));have Aw:=hid (And.intro (Aw.out.1.below hb) (Aw.out.2.below hb));have Gf:=hid (Nat.le_trans Gf.out hb.size);clear hb y0;generalize hnm:aZ ts 2 k4 e4=nm;by_cases hq:nm=jd
 ·subst hq
  have he0:e4=0/\au ts k4=2:=by
   have h:=hnm;unfold aZ at h;by_cases hq:e4=0/\au ts k4=2
   ·exact hq
   ·rw [if_neg hq] at h;exact absurd h (by decide)
  obtain ⟨rfl,hk2⟩:=he0;have hel:aj ts k4=jd:=by
   have h:=hnm
   rwa [show aZ ts 2 k4 0=aj ts k4 from if_pos ⟨rfl,hk2⟩] at h
  obtain ⟨t0,UF,rfl⟩:=HR4.out.FO rfl;have hk4:=HR4.out.lt rfl;have hkn:k4+1<ts.length:=BV Ee.out hk4 hel;have UD:lb.length+(k+4)<=k4/\k<k4:=by
   obtain ⟨_,q3,h3,h4⟩:=aJ UF;have hq3:=xe Ee.out (eF Ee.out HK.out (by decide) UA.out) h3;have Xe:q3<ts.length:=HQ3.out q3 h3;obtain ⟨ob,hxb,_⟩:=(mM Ee.out.good _ q3 (Nat.le_refl _) Xe (d+1)).1;rw [lY hxb] at h4;obtain ⟨s1,s2,_⟩:=DR Ee.out hxb Xe t0 k4 h4;rw [DW.out.1 t0 k4 UF];simp only [Gb.ex,Gb.pre] at s1
   omega
  have tO:=hid (And.intro UD hel);have HB2:=hid (show ∀ W,Below w.heap.size w W->Calls Tryz.prog 18 #[.agg #[.slice (some ⟨gp,op,none⟩) ts.length c,.int .i64 ((k4:Int)+1),.int .i64 (0:Nat),.int .i64 (0:Nat)],.int .i64 ((d:Int)+1)] W (dP (.slice (some ⟨gp,op,none⟩) ts.length c) ts.length (ts.length+3 - (k4+1)) (kW ts (d+1) (k4+1)) W) from fun W hl=>uE (o:=Out.ok () (k4+1)) (q0:=k4+1) Ee.out zC.out (d+1) (by have:=HD.out;omega) W (HP.out W hl) ⟨rfl,hkn⟩ (fun a q h=>by injection h with _ h;subst h;omega));have k6:(k4:Int)<=5000:=by have:=HN.out;omega
  have k7:(0:Int)<=(k4:Int):=by omega
  clear hnm hk2 hel UF hk4 hkn UD;rw [show str jd=⟨#[101,108,115,101]⟩ from rfl];have y0:=ag gD.out;have L8:=aL gD.out;go_wp2_with fail
  have h10:=gD.out.put 1 (.int .i64 ((k4:Int)+1));have hZ:=HZ.out.far (p:=⟨g10,1,none⟩) (show ¬ (gb+1=g10) by have:=Gi.out;omega) (.int .i64 ((k4:Int)+1));have hL:=HL.out.setCell (p:=⟨g10,1,none⟩) (by have:=Gi.out;have:=di.out;simp;omega) (.int .i64 ((k4:Int)+1));have hCB:=And.intro (bW Aw.out.1 Gi.out.2 1 (.int .i64 ((k4:Int)+1))) (Aw.out.2.off gD.out (eD wC g10 1 (.int .i64 ((k4:Int)+1))));have PG:w9.heap.size<=(wC.setCell ⟨g10,1,none⟩ (.int .i64 ((k4:Int)+1))).heap.size:=by simpa using Gf.out
  change Calls _ _ _ (wC.setCell ⟨g10,1,none⟩ (.int .i64 ((k4:Int)+1))) _;generalize wC.setCell ⟨g10,1,none⟩ (.int .i64 ((k4:Int)+1))=wD at h10 hZ hL hCB PG ⊢;have gD:=hid (show Sits wD g10 57 #[.slice (some ⟨gp,op,none⟩) ts.length c,.int .i64 ((k4:Int)+1),.int .i64 (0:Nat),.int .i64 (0:Nat)] from h10);have HZ:=hid hZ;have HL:=hid hL;have Aw:=hid hCB;have Gf:=hid PG;clear h10 hZ hL hCB PG y0 L8;refine (HB2.out _ HL.out).mono ?_;rintro x wE ⟨ZV,l2,u,rfl,h1,h2,h3,h4,hb⟩;obtain ⟨k6,j6,e6,rfl⟩:=h1.cells;obtain ⟨r3,d3,cs3,rfl,hc3,uH,_⟩:=h2;have Pz:=hid h1;have UG:=hid (⟨h3,h4⟩:_/\_);have hlow:=aO wE (.cells #[.slice (some ⟨gp,op,none⟩) ts.length c,.int .i64 (k6:Nat),.int .i64 (j6:Nat),.int .i64 (e6:Nat)] 57);have hb2:=hb.trans (hlow.mono hb.size);have HOWN:=hid (xc Aw.out.1);have a0j:=hid HL.out.size;have Xf:=hid hb.size;have HZ:=hid (HZ.out.below hb2 HZ.out.lt);have gD:=hid (gD.out.below hb2 gD.out.lt);have HL:=hid (HL.out.trans (hb2.mono HL.out.size));have Aw:=hid (And.intro (Aw.out.1.below hb2) (Aw.out.2.below hb2));have Gf:=hid (Nat.le_trans Gf.out hb2.size);have QR:=hid (And.intro (hc3.below hlow) (uH.below hlow));have Xg:=hid (Sits.new wE 57 #[.slice (some ⟨gp,op,none⟩) ts.length c,.int .i64 (k6:Nat),.int .i64 (j6:Nat),.int .i64 (e6:Nat)]);clear h1 h3 h4 hb hc3 uH hb2 hlow HB2;go_upto_region 23 with (fail)
  change Code.wp _ _ _ _ (wE.alloc (.cells #[.slice (some ⟨gp,op,none⟩) ts.length c,.int .i64 (k6:Nat),.int .i64 (j6:Nat),.int .i64 (e6:Nat)] 57));generalize wE.alloc (.cells #[.slice (some ⟨gp,op,none⟩) ts.length c,.int .i64 (k6:Nat),.int .i64 (j6:Nat),.int .i64 (e6:Nat)] 57)=wG at HZ gD HL Aw Gf QR Xg ⊢;generalize wE.heap.size=g13 at Xg Xf ⊢;have HL2:=hid (show l2.length<=5003 from by have:=UG.out.2;have:=HN.out;omega);go_wp2_with (at_builtin;refine ax nR rfl _ _ rfl (B:=w9.heap.size) (r:=rB) (n:=1+lb.length+1) (d:=dB) (xs:=UE) rfl Aw.out.1 Gf.out r3 l2.length d3 cs3 rfl QR.out.2.len QR.out.1 QR.out.2.one (by have:=Rh.out;have:=HL2.out;unfold maxLen;omega) (by have:=Rh.out;have:=HL2.out;omega) ?_)
  intro rH dH wF OE Uz OG WZ;have hcm:=Aw.out.2.imp fun _ _ h=>vW.grow (n:=1+lb.length+1+l2.length) (d:=dH) OE (fun g h=>h.2) Uz (fun g h=>h.1) h
  have Xh:=QR.out.2.imp fun _ _ h=>vW.grow (n:=1+lb.length+1+l2.length) (d:=dH) OE (fun g h e=>absurd (HOWN.out g e) (by omega)) Uz (fun g h=>Nat.le_trans a0j.out h) h
  have SN:=hid (And.intro WZ (hcm.append Xh));have hZ:=HZ.out.below OG (by have:=Gi.out;omega);have h10:=gD.out.below OG Gi.out.2;have Tp:=Xg.out.grown OE (fun e=>absurd (HOWN.out _ e) (by have:=Xf.out;omega));have hL:=HL.out.trans (OG.mono (by have:=Gi.out;have:=di.out;omega));have PG:=Nat.le_trans Gf.out OG.size;have HZ:=hid hZ;have gD:=hid h10;have Xg:=hid Tp;have HL:=hid hL;have Gf:=hid PG;clear hZ h10 Tp hL PG hcm Xh OE Uz OG WZ;have x0:=ag Xg.out;have y0:=ag gD.out;have L8:=aL gD.out;go_upto_region 25 with (fail)
  have h10:=aA gD.out (.slice (some ⟨gp,op,none⟩) ts.length c) (.int .i64 (k6:Nat)) (.int .i64 (j6:Nat)) (.int .i64 (e6:Nat));have hZ:=bP HZ.out (show gb+1≠g10 by have:=Gi.out;omega) (.slice (some ⟨gp,op,none⟩) ts.length c) (.int .i64 (k6:Nat)) (.int .i64 (j6:Nat)) (.int .i64 (e6:Nat));have hL:=aG HL.out (g:=g10) (by have:=Gi.out;have:=di.out;omega) (.slice (some ⟨gp,op,none⟩) ts.length c) (.int .i64 (k6:Nat)) (.int .i64 (j6:Nat)) (.int .i64 (e6:Nat));have hCF:=And.intro (bX SN.out.1 Gi.out.2 (.slice (some ⟨gp,op,none⟩) ts.length c) (.int .i64 (k6:Nat)) (.int .i64 (j6:Nat)) (.int .i64 (e6:Nat))) (SN.out.2.off gD.out (bQ wF g10 (.slice (some ⟨gp,op,none⟩) ts.length c) (.int .i64 (k6:Nat)) (.int .i64 (j6:Nat)) (.int .i64 (e6:Nat))));have PG:w9.heap.size<=(aF wF g10 (.slice (some ⟨gp,op,none⟩) ts.length c) (.int .i64 (k6:Nat)) (.int .i64 (j6:Nat)) (.int .i64 (e6:Nat))).heap.size:=Nat.le_trans Gf.out (bQ wF g10 (.slice (some ⟨gp,op,none⟩) ts.length c) (.int .i64 (k6:Nat)) (.int .i64 (j6:Nat)) (.int .i64 (e6:Nat))).size;change Code.wp _ _ _ _ (aF wF g10 (.slice (some ⟨gp,op,none⟩) ts.length c) (.int .i64 (k6:Nat)) (.int .i64 (j6:Nat)) (.int .i64 (e6:Nat)));generalize aF wF g10 (.slice (some ⟨gp,op,none⟩) ts.length c) (.int .i64 (k6:Nat)) (.int .i64 (j6:Nat)) (.int .i64 (e6:Nat))=wI at h10 hZ hL hCF PG ⊢;have gD:=hid h10;have HZ:=hid hZ;have HL:=hid hL;have SN:=hid hCF;have Gf:=hid PG;clear h10 hZ hL hCF PG x0 y0 L8;generalize hcs:UE ++ cs3=UE at SN
  clear hcs;have uz:=hid (show 1+lb.length+1+l2.length<=20000 from by have:=Rh.out;have:=HL2.out;omega);have HOW:=hid (xc SN.out.1);have UH:=hid (DU SN.out.1);refine rf [102,103,104,105,106,4] (qj wI rH (1+lb.length+1+l2.length) dH w9.heap.size UE (.agg #[.slice (some ⟨gp,op,none⟩) ts.length c,.int .i64 (k6:Nat),.int .i64 (j6:Nat),.int .i64 (e6:Nat)])) (fun _ _=>False) qj.OL (by kernel_rfl) (by kernel_rfl) (by kernel_rfl) (by kernel_rfl) (by simp) (fun _=>qj.start SN.out.1) ?_ (fun _ _ _ _ h=>h.elim) ?_
  ·intro ii oq hi hoq dn A W hI hdn hkk he
   simp only [List.length_cons,List.length_nil,Nat.zero_add,Nat.reduceAdd] at hi
   have Lf:=hid hI;have HDN:=hid hdn;refine .inl ?_;obtain rfl | rfl | rfl | rfl | rfl | rfl:ii=0 \/ ii=1 \/ ii=2 \/ ii=3 \/ ii=4 \/ ii=5:=by omega
   all_goals (injection hoq with hoq;subst hoq)
   ·refine ⟨by kernel_rfl,?_⟩
    have t11:A.tmps[11]?.getD undef = .slice rH (1+lb.length+1+l2.length) dH:=hkk 11 (by rfl);clear hI hdn he;go_simp
    exact Lf.out.set 0 _ (by decide) (fun _=>rfl) (fun h=>absurd h (by decide)) (fun h=>absurd h (by decide)) (fun h=>absurd h (by decide)) (fun h=>absurd h (by decide))
   ·refine ⟨by kernel_rfl,?_⟩
    clear hI hdn he;go_simp
    exact Lf.out.set 1 _ (by decide) (fun h=>absurd h (by decide)) (fun _=>rfl) (fun h=>absurd h (by decide)) (fun h=>absurd h (by decide)) (fun h=>absurd h (by decide))
   ·refine ⟨by kernel_rfl,?_⟩
    have t103:A.tmps[103]?.getD undef = .agg #[.int .u8 0,.int .u8 0,.int .u8 0,.int .u8 0,.slice none 0 0,.slice none 0 0]:=hI.x1 (he 1 (by kernel_rfl));clear hI hdn he;go_simp
    exact (Lf.out.grow (aO _ _)).set 2 _ (by decide) (fun h=>absurd h (by decide)) (fun h=>absurd h (by decide)) (fun _ _=>⟨_,rfl,Sits.new _ _ _⟩) (fun h=>absurd h (by decide)) (fun h=>absurd h (by decide))
   ·refine ⟨by kernel_rfl,?_⟩
    have t102:A.tmps[102]?.getD undef = .slice rH (1+lb.length+1+l2.length) dH:=hI.x0 (he 0 (by kernel_rfl));obtain ⟨gf,t104,Su⟩:=hI.x2 (he 2 (by kernel_rfl)) hdn;have t104:A.tmps[104]?.getD undef = .slice (some ⟨gf,0,none⟩) 1 1:=t104;refine qA nR (.tmp 102) (.tmp 104) rfl (B:=w9.heap.size) ((aU A 102).trans t102) (hI.cut hdn) (Nat.le_trans Gf.out hI.kp.size) (some ⟨gf,0,none⟩) 1 1 fQ.toList ((aU A 104).trans t104) rfl (gq Su) vO (by have:=uz.out;unfold maxLen;omega) (by have:=uz.out;omega) fun r' d' w' hg hf hc=>?_
    exact Lf.out.Xc HDN.out hg hc
   ·refine ⟨by kernel_rfl,?_⟩
    have t10:A.tmps[10]?.getD undef = .pointer (some ⟨g10,0,none⟩):=hkk 10 (by rfl);have y0:=ag (gD.out.keep hI.kp (fun e=>absurd (UH.out _ e) (by have:=Gi.out;omega)));clear hI hdn he;go_simp
    exact Lf.out.set 4 _ (by decide) (fun h=>absurd h (by decide)) (fun h=>absurd h (by decide)) (fun h=>absurd h (by decide)) (fun _=>rfl) (fun h=>absurd h (by decide))
   ·refine ⟨by kernel_rfl,?_⟩
    have h3:=he 3 (by kernel_rfl);obtain ⟨r',d',t105,_⟩:=hI.x3 h3;have t105:A.tmps[105]?.getD undef = .slice r' ((1+lb.length+1+l2.length)+1) d':=t105;have Qr:=hid t105;have HD3:=hid h3;clear hI hdn he h3;go_simp
    exact Lf.out.set 5 _ (by decide) (fun h=>absurd h (by decide)) (fun h=>absurd h (by decide)) (fun h=>absurd h (by decide)) (fun h=>absurd h (by decide)) (fun _=>⟨HD3.out,Qr.out.symm⟩)
  ·intro xs W hI
   obtain ⟨r',d',e3',hc⟩:=hI.x3 rfl;have e5':xs 5 = .slice r' ((1+lb.length+1+l2.length)+1) d':=(hI.x5 rfl).2.trans e3';have e4':xs 4 = .agg #[.slice (some ⟨gp,op,none⟩) ts.length c,.int .i64 (k6:Nat),.int .i64 (j6:Nat),.int .i64 (e6:Nat)]:=hI.x4 rfl;have hmk:o8 w.heap.size W (.slice r' ((1+lb.length+1+l2.length)+1) d') ((([(⟨8,0,0,0,l,[]⟩:Prog.Mark)] ++ lb ++ [noMark]) ++ l2) ++ [noMark]):=⟨r',d',UE ++ fQ.toList,by simp only [List.length_append,List.length_cons,List.length_nil,Nat.zero_add],hc.lay,(SN.out.2.imp fun _ _ h=>h.FP hI.kp (fun g hg=>hg.2) (fun g hg=>hg.1)).append rQ,fun g o s he=>Nat.le_trans YB.out (hc.fresh g o s he).1⟩
   have Xi:=HZ.out.keep hI.kp (fun e=>absurd (UH.out _ e) (by have:=Gi.out;omega));have Xj:Below w.heap.size w W:=HL.out.trans (hI.kp.below HL.out.size (fun g e=>Nat.le_trans (by have:=Gi.out;have:=di.out;omega) (UH.out g e)));have PE:=hid hmk;have Ri:=hid Xi;have lQ:=hid Xj;simp only [List.length_cons,List.length_nil,Nat.zero_add,Nat.reduceAdd,List.drop_succ_cons,List.drop_zero,gZ,Act.put,List.setIfInBounds_toArray,List.set_cons_zero,List.set_cons_succ,e4',e5']
   clear hI hc e3' e5' e4' hmk Xi Xj;have z0:=ag Ri.out;have kX:=aL Ri.out;go_wp2_with fail
   have hs:=(aA Ri.out (.slice (some ⟨gp,op,none⟩) ts.length c) (.int .i64 (k6:Nat)) (.int .i64 (j6:Nat)) (.int .i64 (e6:Nat)))
   have hl:=(aG lQ.out (g:=(gb+1)) (by have:=di.out;omega) (.slice (some ⟨gp,op,none⟩) ts.length c) (.int .i64 (k6:Nat)) (.int .i64 (j6:Nat)) (.int .i64 (e6:Nat)))
   have iI:o8 _ (aF W (gb+1) (.slice (some ⟨gp,op,none⟩) ts.length c) (.int .i64 (k6:Nat)) (.int .i64 (j6:Nat)) (.int .i64 (e6:Nat))) (.slice r' ((1+lb.length+1+l2.length)+1) d') ((([(⟨8,0,0,0,l,[]⟩:Prog.Mark)] ++ lb ++ [noMark]) ++ l2) ++ [noMark]):=(o8.put Ri.out PE.out _ _ _ _)
   change bodyPost _ _ _ _ _ (aF W (gb+1) (.slice (some ⟨gp,op,none⟩) ts.length c) (.int .i64 (k6:Nat)) (.int .i64 (j6:Nat)) (.int .i64 (e6:Nat)));change Sits (aF W (gb+1) (.slice (some ⟨gp,op,none⟩) ts.length c) (.int .i64 (k6:Nat)) (.int .i64 (j6:Nat)) (.int .i64 (e6:Nat))) _ _ _ at hs;generalize aF W (gb+1) (.slice (some ⟨gp,op,none⟩) ts.length c) (.int .i64 (k6:Nat)) (.int .i64 (j6:Nat)) (.int .i64 (e6:Nat))=W9 at hs hl iI ⊢;obtain ⟨s0,s1,s2,s3,_⟩:=ag hs;have HI0:=hid iI;have HF:=hid hl;clear hs hl iI;exact bodyPost_ret (v:=.tuple #[.slice r' ((1+lb.length+1+l2.length)+1) d',.agg #[.slice (some ⟨gp,op,none⟩) ts.length c,.int .i64 (k6:Nat),.int .i64 (j6:Nat),.int .i64 (e6:Nat)]]) (by simp [results,Tryz.results55,go_sem,s0,s1,s2,s3]) rfl (Im HK.out tO.out.1.1 YA.out UA.out HR4.out HIT.out.1 DW.out.1 rfl tO.out.2 Pz.out UG.out.1 UG.out.2 HI0.out HF.out)
 ·have fH:=hid (show aZ ts 2 k4 e4≠jd from hnm ▸ hq)
  have hlb:=uy nm [101,108,115,101];rw [decide_eq_false (show ¬ (nm=[101,108,115,101]) from hq)] at hlb;generalize str nm=S2 at hlb ⊢;clear hnm hq;go_upto_region 25 with (fail)
  have uz:=hid (show 1+lb.length+1<=20000 from by have:=Rh.out;omega);have HOW:=hid (xc Aw.out.1);have UH:=hid (DU Aw.out.1);refine rf [102,103,104,105,106,4] (qj wC rB (1+lb.length+1) dB w9.heap.size UE (.agg #[.slice (some ⟨gp,op,none⟩) ts.length c,.int .i64 (k4:Nat),.int .i64 (j4:Nat),.int .i64 (e4:Nat)])) (fun _ _=>False) qj.OL (by kernel_rfl) (by kernel_rfl) (by kernel_rfl) (by kernel_rfl) (by simp) (fun _=>qj.start Aw.out.1) ?_ (fun _ _ _ _ h=>h.elim) ?_
  ·intro ii oq hi hoq dn A W hI hdn hkk he
   simp only [List.length_cons,List.length_nil,Nat.zero_add,Nat.reduceAdd] at hi
   have Lf:=hid hI;have HDN:=hid hdn;refine .inl ?_;obtain rfl | rfl | rfl | rfl | rfl | rfl:ii=0 \/ ii=1 \/ ii=2 \/ ii=3 \/ ii=4 \/ ii=5:=by omega
   all_goals (injection hoq with hoq;subst hoq)
   ·refine ⟨by kernel_rfl,?_⟩
    have t11:A.tmps[11]?.getD undef = .slice rB (1+lb.length+1) dB:=hkk 11 (by rfl);clear hI hdn he;go_simp
    exact Lf.out.set 0 _ (by decide) (fun _=>rfl) (fun h=>absurd h (by decide)) (fun h=>absurd h (by decide)) (fun h=>absurd h (by decide)) (fun h=>absurd h (by decide))
   ·refine ⟨by kernel_rfl,?_⟩
    clear hI hdn he;go_simp
    exact Lf.out.set 1 _ (by decide) (fun h=>absurd h (by decide)) (fun _=>rfl) (fun h=>absurd h (by decide)) (fun h=>absurd h (by decide)) (fun h=>absurd h (by decide))
   ·refine ⟨by kernel_rfl,?_⟩
    have t103:A.tmps[103]?.getD undef = .agg #[.int .u8 0,.int .u8 0,.int .u8 0,.int .u8 0,.slice none 0 0,.slice none 0 0]:=hI.x1 (he 1 (by kernel_rfl));clear hI hdn he;go_simp
    exact (Lf.out.grow (aO _ _)).set 2 _ (by decide) (fun h=>absurd h (by decide)) (fun h=>absurd h (by decide)) (fun _ _=>⟨_,rfl,Sits.new _ _ _⟩) (fun h=>absurd h (by decide)) (fun h=>absurd h (by decide))
   ·refine ⟨by kernel_rfl,?_⟩
    have t102:A.tmps[102]?.getD undef = .slice rB (1+lb.length+1) dB:=hI.x0 (he 0 (by kernel_rfl));obtain ⟨gf,t104,Su⟩:=hI.x2 (he 2 (by kernel_rfl)) hdn;have t104:A.tmps[104]?.getD undef = .slice (some ⟨gf,0,none⟩) 1 1:=t104;refine qA nR (.tmp 102) (.tmp 104) rfl (B:=w9.heap.size) ((aU A 102).trans t102) (hI.cut hdn) (Nat.le_trans Gf.out hI.kp.size) (some ⟨gf,0,none⟩) 1 1 fQ.toList ((aU A 104).trans t104) rfl (gq Su) vO (by have:=uz.out;unfold maxLen;omega) (by have:=uz.out;omega) fun r' d' w' hg hf hc=>?_
    exact Lf.out.Xc HDN.out hg hc
   ·refine ⟨by kernel_rfl,?_⟩
    have t10:A.tmps[10]?.getD undef = .pointer (some ⟨g10,0,none⟩):=hkk 10 (by rfl);have y0:=ag (gD.out.keep hI.kp (fun e=>absurd (UH.out _ e) (by have:=Gi.out;omega)));clear hI hdn he;go_simp
    exact Lf.out.set 4 _ (by decide) (fun h=>absurd h (by decide)) (fun h=>absurd h (by decide)) (fun h=>absurd h (by decide)) (fun _=>rfl) (fun h=>absurd h (by decide))
   ·refine ⟨by kernel_rfl,?_⟩
    have h3:=he 3 (by kernel_rfl);obtain ⟨r',d',t105,_⟩:=hI.x3 h3;have t105:A.tmps[105]?.getD undef = .slice r' ((1+lb.length+1)+1) d':=t105;have Qr:=hid t105;have HD3:=hid h3;clear hI hdn he h3;go_simp
    exact Lf.out.set 5 _ (by decide) (fun h=>absurd h (by decide)) (fun h=>absurd h (by decide)) (fun h=>absurd h (by decide)) (fun h=>absurd h (by decide)) (fun _=>⟨HD3.out,Qr.out.symm⟩)
  ·intro xs W hI
   obtain ⟨r',d',e3',hc⟩:=hI.x3 rfl;have e5':xs 5 = .slice r' ((1+lb.length+1)+1) d':=(hI.x5 rfl).2.trans e3';have e4':xs 4 = .agg #[.slice (some ⟨gp,op,none⟩) ts.length c,.int .i64 (k4:Nat),.int .i64 (j4:Nat),.int .i64 (e4:Nat)]:=hI.x4 rfl;have hmk:o8 w.heap.size W (.slice r' ((1+lb.length+1)+1) d') (([(⟨8,0,0,0,l,[]⟩:Prog.Mark)] ++ lb ++ [noMark]) ++ [noMark]):=⟨r',d',UE ++ fQ.toList,by simp only [List.length_append,List.length_cons,List.length_nil,Nat.zero_add],hc.lay,(Aw.out.2.imp fun _ _ h=>h.FP hI.kp (fun g hg=>hg.2) (fun g hg=>hg.1)).append rQ,fun g o s he=>Nat.le_trans YB.out (hc.fresh g o s he).1⟩
   have Xi:=HZ.out.keep hI.kp (fun e=>absurd (UH.out _ e) (by have:=Gi.out;omega));have Xj:Below w.heap.size w W:=HL.out.trans (hI.kp.below HL.out.size (fun g e=>Nat.le_trans (by have:=Gi.out;have:=di.out;omega) (UH.out g e)));have PE:=hid hmk;have Ri:=hid Xi;have lQ:=hid Xj;simp only [List.length_cons,List.length_nil,Nat.zero_add,Nat.reduceAdd,List.drop_succ_cons,List.drop_zero,gZ,Act.put,List.setIfInBounds_toArray,List.set_cons_zero,List.set_cons_succ,e4',e5']
   clear hI hc e3' e5' e4' hmk Xi Xj;have z0:=ag Ri.out;have kX:=aL Ri.out;go_wp2_with fail
   have hs:=(aA Ri.out (.slice (some ⟨gp,op,none⟩) ts.length c) (.int .i64 (k4:Nat)) (.int .i64 (j4:Nat)) (.int .i64 (e4:Nat)))
   have hl:=(aG lQ.out (g:=(gb+1)) (by have:=di.out;omega) (.slice (some ⟨gp,op,none⟩) ts.length c) (.int .i64 (k4:Nat)) (.int .i64 (j4:Nat)) (.int .i64 (e4:Nat)))
   have iI:o8 _ (aF W (gb+1) (.slice (some ⟨gp,op,none⟩) ts.length c) (.int .i64 (k4:Nat)) (.int .i64 (j4:Nat)) (.int .i64 (e4:Nat))) (.slice r' ((1+lb.length+1)+1) d') (([(⟨8,0,0,0,l,[]⟩:Prog.Mark)] ++ lb ++ [noMark]) ++ [noMark]):=(o8.put Ri.out PE.out _ _ _ _)
   change bodyPost _ _ _ _ _ (aF W (gb+1) (.slice (some ⟨gp,op,none⟩) ts.length c) (.int .i64 (k4:Nat)) (.int .i64 (j4:Nat)) (.int .i64 (e4:Nat)));change Sits (aF W (gb+1) (.slice (some ⟨gp,op,none⟩) ts.length c) (.int .i64 (k4:Nat)) (.int .i64 (j4:Nat)) (.int .i64 (e4:Nat))) _ _ _ at hs;generalize aF W (gb+1) (.slice (some ⟨gp,op,none⟩) ts.length c) (.int .i64 (k4:Nat)) (.int .i64 (j4:Nat)) (.int .i64 (e4:Nat))=W9 at hs hl iI ⊢;obtain ⟨s0,s1,s2,s3,_⟩:=ag hs;have HI0:=hid iI;have HF:=hid hl;clear hs hl iI;exact bodyPost_ret (v:=.tuple #[.slice r' ((1+lb.length+1)+1) d',.agg #[.slice (some ⟨gp,op,none⟩) ts.length c,.int .i64 (k4:Nat),.int .i64 (j4:Nat),.int .i64 (e4:Nat)]]) (by simp [results,Tryz.results55,go_sem,s0,s1,s2,s3]) rfl (OO Ee.out HK.out YA.out UA.out HR4.out HIT.out.1 DW.out.1 DW.out.2 fH.out HI0.out HF.out)
theorem Rj {ts:List Lex.Tok} (hG:gM ts) (gp op c:Nat):∀ (m k:Nat),ts.length - k<=m->Yy ts gp op c k/\FN ts gp op c k:=by
 intro m;induction m with
 | zero=>intro k hm;exact ⟨fun _ _ _ _ _ _ hk=>absurd hk (by omega),fun _ _ _ _ _ _ hk=>absurd hk (by omega)⟩
 | succ m ih =>
  intro k hm;by_cases hkn:k<ts.length
  ·have IS:∀ k',k<k' -> Yy ts gp op c k':=fun k' h=>(ih k' (by omega)).1
   have IB:∀ k',k<k' -> FN ts gp op c k':=fun k' h=>(ih k' (by omega)).2
   refine ⟨fun d out w hd hx hP hk=>?_,K9 hG gp op c k IS⟩;by_cases h3:aj ts k=uj
   ·exact Rf hG gp op c k d out w hP hk h3 hd hx IB
   by_cases h4:aj ts k=eB
   ·exact Il hG gp op c k d out w hP hk h4 hd hx IB
   have ho:out=(bH ts k).map fun m => .cons m .nil .nil .nil:=by
    cases hx with
    | flat _ _=>rfl
    | gJ h _=>rcases h with h | h <;> contradiction
    | gK h _ _=>rcases h with h | h <;> contradiction
    | loop h _ _=>exact absurd h h4
    | cond h _ _ _=>exact absurd h h3
    | other h _ _ _ _=>exact absurd h h3
   subst ho;by_cases h1:aj ts k=rq
   ·exact JI hG gp op c k _ d w hP hk (by omega) 3 rq _ (.inl ⟨rfl,rfl,rfl⟩) h1
   by_cases h2:aj ts k=ru
   ·exact JI hG gp op c k _ d w hP hk (by omega) 7 ru _ (.inr ⟨rfl,rfl,rfl⟩) h2
   exact OJ hG gp op c k _ d w hP hk (by omega) h1 h2 h3 h4
  ·exact ⟨fun _ _ _ _ _ _ hk=>absurd hk hkn,fun _ _ _ _ _ _ hk=>absurd hk hkn⟩
theorem OP {α:Type} {v:Value} {ts:List Lex.Tok} {o:Out α} {u:Value} (hG:gM ts) (d:Nat) (hd:d<=9) (w:World) (hP:dK w v ts) (hR:aP v ts.length o u) :
  Calls Tryz.prog 18 #[u,.int .i64 (d:Nat)] w (dP v ts.length (ts.length+3) (o.bind fun _ k=>kW ts d k) w):=by
 obtain ⟨gp,op,c,rfl,_,_⟩:=hP.at_;cases o with
 | ok a k =>
  obtain ⟨rfl,hk⟩:=hR;obtain ⟨out,hx,_⟩:=(mM hG.good _ k (Nat.le_refl _) hk d).1;show Calls _ _ _ _ (dP _ _ _ (kW ts d k) w)
  rw [lY hx];refine ((Rj hG gp op c _ k (Nat.le_refl _)).2 d out w hd hx hP hk).mono ?_;rintro e w' ⟨lv,l,u,g1,g2,g3,g4,g5,g6⟩;exact ⟨lv,l,u,g1,g2,g3,g4,by omega,g6⟩
 | bad j e =>
  obtain ⟨k,rfl,he,hj,hk⟩:=hR;exact BX hG gp op c k j e _ d w hP he hj hk
end Go.Proofs.YtaanhmndeobgbaaGreatDoor.fT
