/- Part 43 of the proof: what is used of the texts PrsX. -/
import Derived.Test.YtaanhmndeobgbaaGreatDoorGE1
set_option maxRecDepth 100000
set_option maxHeartbeats 4000000
namespace Go.Proofs.YtaanhmndeobgbaaGreatDoor.fT
open Go.RowKit Mem Go.Proofs.YtaanhmndeobgbaaGreatDoor.Expr Prog
open Lex (Tok jA cO iO)
inductive UM
 | ok (t:Ts)
 | err (l c e:Nat)
open Classical in
noncomputable def qB (ts:List Lex.Tok):Out Ts:=if h:∃ out,Tx ts (.inits []) 0 out then h.choose else .bad 0 0
theorem Ai {ts:List Lex.Tok} {out:Out Ts} (h:Tx ts (.inits []) 0 out):qB ts=out:=by
 unfold qB;rw [dif_pos ⟨out,h⟩];exact (⟨out,h⟩:∃ out,Tx ts (.inits []) 0 out).choose_spec.CG h
theorem Aj {ts:List Lex.Tok} (hp:gM ts):Tx ts (.inits []) 0 (qB ts):=by
 obtain ⟨out,h⟩:=Nh hp.good _ 0 (Nat.le_refl _) hp.some [];rw [Ai h];exact h
noncomputable def fG (s:List UInt8):UM:=match Lex.fq s with
 | .err e l c => .err l c e
 | .ok ts=>match qB ts with
  | .ok t _ => .ok t
  | .bad j e => .err (tk ts j).line (tk ts j).xy e
theorem ql {s:List UInt8} {e l c:Nat} (h:Lex.fq s = .err e l c):fG s = .err l c e:=by unfold fG;rw [h]
theorem nU {s:List UInt8} {ts:List Lex.Tok} {t:Ts} {k:Nat} (h:Lex.fq s = .ok ts) (ht:qB ts = .ok t k):fG s = .ok t:=by unfold fG;rw [h];simp only [ht]
theorem ma {s:List UInt8} {ts:List Lex.Tok} {j e:Nat} (h:Lex.fq s = .ok ts) (ht:qB ts = .bad j e):fG s = .err (tk ts j).line (tk ts j).xy e:=by unfold fG;rw [h];simp only [ht]
theorem JL {s:List UInt8} {t:Ts} (h:fG s = .ok t):Read t:=by
 cases hl:Lex.fq s with
 | err e l c=>rw [ql hl] at h;cases h
 | ok ts =>
  cases ht:qB ts with
  | bad j e=>rw [ma hl ht] at h;cases h
  | ok t' k =>
   rw [nU hl ht] at h;injection h with h;subst h;exact QL hl (ht ▸ Aj (zF hl))
def Lm (r:UM) (w:World) (e:Ending) (w':World):Prop :=
 Below w.heap.size w w' /\ match r with
  | .ok t=>∃ vi vt pa,e = .returned (.tuple #[eU vi vt t.all (.pointer pa),.agg #[.int .i64 0,.int .i64 0],.int .i64 0])/\nO w' t vi vt (.pointer pa)
  | .err l c er=>e = .returned (.tuple #[eU (.slice none 0 0) (.slice none 0 0) false (.pointer none),.agg #[.int .i64 l,.int .i64 c],.int .i64 er])
theorem D6:∀ (ts:List Lex.Tok) (i r:Nat) (t:Lex.Tok),ts[i]? = some t->r<5->(Lex.toks ts)[i * 5+r]? = (Lex.eG t)[r]?
 | [],i,r,t,h,_=>by simp at h
 | a :: ts,0,r,t,h,hr=>by
  have:a=t:=by simpa using h
  subst this;show (Lex.eG a ++ Lex.toks ts)[0 * 5+r]? = _
  rw [Nat.zero_mul,Nat.zero_add,List.getElem?_append_left (by exact hr)]
 | a :: ts,i+1,r,t,h,hr=>by
  show (Lex.eG a ++ Lex.toks ts)[(i+1) * 5+r]? = _
  have e:(Lex.eG a).length=5:=rfl;rw [List.getElem?_append_right (by rw [e];omega),e];have e2:(i+1) * 5+r - 5=i * 5+r:=by omega
  rw [e2];exact D6 ts i r t (by simpa using h) hr
theorem Rp (ts:List Lex.Tok) (j i:Nat) (u:Value) (hj:j<ts.length) (hu:(pc (tk ts j))[i]? = some u):(Lex.toks ts)[j * 5+i]? = some u:=by
 have hi:i<5:=by
  by_cases h:i<5
  ·exact h
  ·rw [Array.getElem?_eq_none (by show 5<=i;omega)] at hu;cases hu
 have ht:ts[j]? = some (tk ts j):=by
  unfold tk;rw [List.getD_eq_getElem?_getD,List.getElem?_eq_getElem hj];rfl
 rw [D6 ts j i _ ht hi];have e:(pc (tk ts j)).toList=Lex.eG (tk ts j):=rfl;rw [<- e,Array.getElem?_toList];exact hu
theorem UN {w W1 W:World} {ts:List Lex.Tok} {gp cap' gR B:Nat} {X:Nat->Prop} (hX:Prog.All w) (hp:gM ts) (hlow:Below w.heap.size w W1) {v:Value} (hown:W1.ownsRow B 99 5 v ts.length (Lex.toks ts)) (hv:v = .slice (some ⟨gp,0,none⟩) ts.length cap')
  (hk:aa X W1 W) (hx:∀ x,X x->w.heap.size<=x/\x≠gp) (hR:Sits W gR 51 #[v]) (hg:w.heap.size<=gR):Rd W gR gp cap' ts 0:=by
 have ho:v.ownBlock=some gp:=by rw [hv];rfl
 have hcells:=hown.cells (g:=gp) ho;have hlt:=hown.lt gp ho
 have hcap:ts.length<=cap' /\ ts.length<=4097:=⟨by
  rcases hown.2 with ⟨h,_⟩ | ⟨g',cap2,cur,h,hB,hh,h3,h4,h5,h6⟩
  ·rw [hv] at h;cases h
  ·rw [hv] at h
   injection h with _ _ e3
   omega,hp.few⟩
 have hne:gp≠gR:=fun e=>by
  subst e;exact aK (gY hown hk (fun g hg hx'=>by rw [ho] at hg;injection hg with hg;exact (hx g hx').2 hg.symm)) hR (by decide) ho
 refine ⟨by rw [Nat.zero_mul,Nat.sub_zero,Nat.sub_zero,<- hv];exact hR,fun j i u hj hu=>?_,hp.some,hcap.1,by omega,hne,hp.good,w,hX,behind hlow hk hlow.size (fun x e=>(hx x e).1),hg⟩;have:=hcells _ u (Rp ts j i u hj hu);rw [Addr.add_lit,Nat.zero_add] at this;rw [World.cell?_of_block (hk.block gp hlt.2 (fun e=>(hx gp e).2 rfl))];exact this
structure jJ (g2 g3 g4:Nat) (l c e:Nat) (w0:World) (d:Nat->Bool) (xs:Nat->Value) (W:World):Prop where
 a0:d 0=true->xs 0 = .agg bV
 a1:d 1=true->xs 1 = .agg #[.int .i64 l,.int .i64 c]
 a2:d 2=true->xs 2 = .int .i64 e
 b0:Sits W g2 27 bV
 b1:Sits W g3 29 #[.int .i64 l,.int .i64 c]
 b2:Sits W g4 30 #[.int .i64 e]
 k:Below w0.heap.size w0 W
 ne:g2≠g3/\g2≠g4/\g3≠g4/\w0.heap.size<=g2/\w0.heap.size<=g3/\w0.heap.size<=g4
section
variable {g2 g3 g4 l c e : Nat} {w0 W : World} {d : Nat → Bool} {xs : Nat → Value}
theorem jJ.r0 (h:jJ g2 g3 g4 l c e w0 d xs W):jJ g2 g3 g4 l c e w0 (ae.aQ d 0) (ae.bz xs 0 (.agg bV)) W :=
 ⟨fun _=>rfl,by simpa [ae.aQ,ae.bz] using h.a1,by simpa [ae.aQ,ae.bz] using h.a2,h.b0,h.b1,h.b2,h.k,h.ne⟩
theorem jJ.r1 (h:jJ g2 g3 g4 l c e w0 d xs W):jJ g2 g3 g4 l c e w0 (ae.aQ d 1) (ae.bz xs 1 (.agg #[.int .i64 l,.int .i64 c])) W :=
 ⟨by simpa [ae.aQ,ae.bz] using h.a0,fun _=>rfl,by simpa [ae.aQ,ae.bz] using h.a2,h.b0,h.b1,h.b2,h.k,h.ne⟩
theorem jJ.r2 (h:jJ g2 g3 g4 l c e w0 d xs W):jJ g2 g3 g4 l c e w0 (ae.aQ d 2) (ae.bz xs 2 (.int .i64 e)) W :=
 ⟨by simpa [ae.aQ,ae.bz] using h.a0,by simpa [ae.aQ,ae.bz] using h.a1,fun _=>rfl,h.b0,h.b1,h.b2,h.k,h.ne⟩
theorem jJ.w3 (h:jJ g2 g3 g4 l c e w0 d xs W) (v:Value):jJ g2 g3 g4 l c e w0 (ae.aQ d 3) (ae.bz xs 3 v) (W.setRow g2 bV):=by
 have hr:=bK W g2 bV;exact ⟨by simpa [ae.aQ,ae.bz] using h.a0,by simpa [ae.aQ,ae.bz] using h.a1,by simpa [ae.aQ,ae.bz] using h.a2,setRow_heap _ _ _ _ _ _ h.b0,h.b1.keep hr (by have:=h.ne;omega),h.b2.keep hr (by have:=h.ne;omega),behind h.k hr h.k.size (fun x e=>by have:=h.ne;omega),h.ne⟩
theorem jJ.w4 (h:jJ g2 g3 g4 l c e w0 d xs W) (v:Value):jJ g2 g3 g4 l c e w0 (ae.aQ d 4) (ae.bz xs 4 v) (W.setRow g3 #[.int .i64 l,.int .i64 c]):=by
 have hr:=bK W g3 #[.int .i64 l,.int .i64 c];exact ⟨by simpa [ae.aQ,ae.bz] using h.a0,by simpa [ae.aQ,ae.bz] using h.a1,by simpa [ae.aQ,ae.bz] using h.a2,h.b0.keep hr (by have:=h.ne;omega),setRow_heap _ _ _ _ _ _ h.b1,h.b2.keep hr (by have:=h.ne;omega),behind h.k hr h.k.size (fun x e=>by have:=h.ne;omega),h.ne⟩
theorem jJ.w5 (h:jJ g2 g3 g4 l c e w0 d xs W) (v:Value):jJ g2 g3 g4 l c e w0 (ae.aQ d 5) (ae.bz xs 5 v) (W.setCell ⟨g4,0,none⟩ (.int .i64 e)):=by
 have hr:aa (fun x=>x=g4) W (W.setCell ⟨g4,0,none⟩ (.int .i64 e)):=(aa.refl (fun x=>x=g4) W).put (p:=⟨g4,0,none⟩) (.inl rfl) _;exact ⟨by simpa [ae.aQ,ae.bz] using h.a0,by simpa [ae.aQ,ae.bz] using h.a1,by simpa [ae.aQ,ae.bz] using h.a2,h.b0.keep hr (by have:=h.ne;omega),h.b1.keep hr (by have:=h.ne;omega),h.b2.put 0 _,behind h.k hr h.k.size (fun x e=>by have:=h.ne;omega),h.ne⟩
end
theorem OW:∀ (f:Nat) (l:List UInt8) (p:Nat × Nat) (e a b:Nat),Lex.o9 f l p = .err e a b->e≠0:=by
 intro f;induction f with
 | zero=>intro l p e a b h;cases h
 | succ f ih =>
  intro l p e a b h;rw [Lex.o9] at h;cases ho:Lex.one l with
  | fin=>rw [ho] at h;cases h
  | bad e2 =>
   rw [ho] at h;injection h with h;subst h;cases l with
   | nil=>cases ho
   | cons c r =>
    rw [Lex.Ey] at ho
    repeat' split at ho
    all_goals first | (injection ho with ho;omega) | cases ho
  | skip n=>rw [ho] at h;exact ih _ _ _ _ _ h
  | piece k n v =>
   rw [ho] at h;simp only at h
   cases hx:Lex.o9 f (l.drop n) (Lex.Gj p (l.take n)) with
   | ok ts=>rw [hx] at h;cases h
   | err e2 a2 b2 =>
    rw [hx] at h;injection h with h1;subst h1;exact ih _ _ _ _ _ hx
theorem Ak {l:List UInt8} {e a b:Nat} (h:Lex.fq l = .err e a b):e≠0:=by
 unfold Lex.fq at h
 split at h
 ·exact OW _ _ _ _ _ _ h
 ·injection h with h;omega
theorem xh (s:ByteArray) (w:World) (hs:s.size<=9223372036854775807) (hX:Prog.All w):Calls Tryz.prog 5 #[.string s] w (Lm (fG s.data.toList) w):=by
 have hmf:∀ (fn:Fn) (first cap:Array Value) (w:World),(Instr.makeFunc fn first cap).run Tryz.prog w = .ok (.func fn first cap) w:=fun _ _ _ _=>rfl
 have HL:=Lib.hid (fun W=>Lex.Qj s W hs);have hb:Below w.heap.size w (((w.alloc (.cells bV 27)).alloc (.cells #[.int .i64 0,.int .i64 0] 29)).alloc (.cells #[.int .i64 0] 30)):=(((Below.refl _ _).alloc (Nat.le_refl _) _).alloc (by simp) _).alloc (by simp;omega) _;have HB:=Lib.hid hb;have HX:=Lib.hid hX;have HZ2:=Lib.hid (show Sits (((w.alloc (.cells bV 27)).alloc (.cells #[.int .i64 0,.int .i64 0] 29)).alloc (.cells #[.int .i64 0] 30)) w.heap.size 27 bV from ((Sits.new _ _ _).alloc _).alloc _);have HZ3:=Lib.hid (show Sits (((w.alloc (.cells bV 27)).alloc (.cells #[.int .i64 0,.int .i64 0] 29)).alloc (.cells #[.int .i64 0] 30)) (w.heap.size+1) 29 #[.int .i64 0,.int .i64 0] from (Sits.made (by simp) _ _).alloc _);have vV:=Lib.hid (show Sits (((w.alloc (.cells bV 27)).alloc (.cells #[.int .i64 0,.int .i64 0] 29)).alloc (.cells #[.int .i64 0] 30)) (w.heap.size+1+1) 30 #[.int .i64 0] from Sits.made (by simp) _ _);clear hb hX hs
 go_enter_defers Tryz.func5,Tryz.ntmps5
 go_wp2_with fail
 change Calls _ _ _ (((w.alloc (.cells bV 27)).alloc (.cells #[.int .i64 0,.int .i64 0] 29)).alloc (.cells #[.int .i64 0] 30)) _;generalize ((w.alloc (.cells bV 27)).alloc (.cells #[.int .i64 0,.int .i64 0] 29)).alloc (.cells #[.int .i64 0] 30)=W0 at HB HZ2 HZ3 vV ⊢;generalize hg4:w.heap.size+1+1=g4 at vV ⊢;generalize hg3:w.heap.size+1=g3 at HZ3 ⊢;obtain ⟨g2,hg2⟩:∃ g2,g2=w.heap.size:=⟨_,rfl⟩
 rw [<- hg2] at HZ2;have HG:=Lib.hid (show g2=w.heap.size/\g2<g3/\g3<g4 by omega);clear hg4 hg3 hg2;refine (HL.out _).mono ?_;rintro e w1 ⟨hlow,hm⟩;have HB1:=Lib.hid (HB.out.trans (hlow.mono HB.out.size));have hz2:=HZ2.out.below hlow HZ2.out.lt;have hz3:=HZ3.out.below hlow HZ3.out.lt;have iL:=vV.out.below hlow vV.out.lt;obtain ⟨c30,c31⟩:=hz3.e2;have c40:=iL.c0;have f30:=hz3.free 0;have f31:=hz3.free 1;have f40:=iL.free 0;have l3:=hz3.lt;have l4:=iL.lt;have n34:g3≠g4:=by have:=HG.out;omega
 have Xq:=Lib.hid hz2;have UO:=Lib.hid hz3;have UQ:=Lib.hid iL;clear hlow hz2 hz3 iL HZ2 HZ3 vV HB HL;cases hl:Lex.fq s.data.toList with
 | err er l c =>
  rw [hl] at hm;simp only at hm
  subst hm;have HE:=Lib.hid (ql hl);have e1:((er:Int) != 0)=true:=by have:=Ak hl;rw [bne_iff_ne];omega
  have qp:=Lib.hid (show jJ g2 g3 g4 l c er w (fun _=>false) (fun _=>undef) (((w1.setCell ⟨g3,0,none⟩ (.int .i64 l)).setCell ⟨g3,1,none⟩ (.int .i64 c)).setCell ⟨g4,0,none⟩ (.int .i64 er)) from by
   have hg:=HG.out;have h0:=HB1.out;have n1:g2≠g3:=by omega
   have n2:g2≠g4:=by omega
   exact ⟨fun h=>(by cases h),fun h=>(by cases h),fun h=>(by cases h),((Xq.out.far n1 _).far n1 _).far n2 _,((UO.out.put 0 _).put 1 _).far n34 _,((UQ.out.far (p:=⟨g3,0,none⟩) n34.symm _).far (p:=⟨g3,1,none⟩) n34.symm _).put 0 _,
    ((h0.setCell (p:=⟨g3,0,none⟩) (by show w.heap.size<=g3;omega) _).setCell (p:=⟨g3,1,none⟩) (by show w.heap.size<=g3;omega) _).setCell (p:=⟨g4,0,none⟩) (by show w.heap.size<=g4;omega) _,by omega⟩)
  clear hl;go_wp2_with fail
  generalize ((w1.setCell ⟨g3,0,none⟩ (.int .i64 l)).setCell ⟨g3,1,none⟩ (.int .i64 c)).setCell ⟨g4,0,none⟩ (.int .i64 er)=W3 at qp ⊢;clear c30 c31 c40 f30 f31 f40 l3 l4;have hg2:=HG.out.1;refine ae.FR [some 15,some 16,some 17,none,none,none] (jJ g2 g3 g4 l c er w) (by kernel_rfl) (by kernel_rfl) (by rfl) ?_ ?_ ?_
  ·intro xs
   exact ⟨fun h=>(by cases h),fun h=>(by cases h),fun h=>(by cases h),qp.out.b0,qp.out.b1,qp.out.b2,qp.out.k.trans ((Ag W3).mono qp.out.k.size),qp.out.ne⟩
  ·intro i o hi ho d A W hd he hI hk
   simp only [List.length_cons,List.length_nil,Nat.zero_add,Nat.reduceAdd] at hi
   have HI:=Lib.hid hI;have k2:A.tmps[2]?.getD undef = .pointer (some ⟨g2,0,none⟩):=by rw [hg2];exact hk 2 (by rfl)
   have k3:A.tmps[3]?.getD undef = .pointer (some ⟨g3,0,none⟩):=hk 3 (by rfl);have k4:A.tmps[4]?.getD undef = .pointer (some ⟨g4,0,none⟩):=hk 4 (by rfl);clear hk;refine ⟨?_,?_⟩
   ·obtain rfl | rfl | rfl | rfl | rfl | rfl:i=0 \/ i=1 \/ i=2 \/ i=3 \/ i=4 \/ i=5:=by omega
    all_goals (injection ho with ho;subst ho;kernel_rfl)
   obtain rfl | rfl | rfl | rfl | rfl | rfl:i=0 \/ i=1 \/ i=2 \/ i=3 \/ i=4 \/ i=5:=by omega
   all_goals (injection ho with ho;subst ho)
   ·refine kP (Y:=oZ (.agg bV) W) (fun u W' h=>by obtain ⟨rfl,rfl⟩:=h;exact HI.out.r0) ?_
    clear hI he;go_simp
    exact ⟨rfl,rfl⟩
   ·have f0:=hI.b1.cell 0
    have f1:=hI.b1.cell 1;refine kP (Y:=oZ (.agg #[.int .i64 l,.int .i64 c]) W) (fun u W' h=>by obtain ⟨rfl,rfl⟩:=h;exact HI.out.r1) ?_;clear hI he;go_simp
    exact ⟨rfl,rfl⟩
   ·have f2:=hI.b2.cell 0
    refine kP (Y:=oZ (.int .i64 er) W) (fun u W' h=>by obtain ⟨rfl,rfl⟩:=h;exact HI.out.r2) ?_;clear hI he;go_simp
    exact ⟨rfl,rfl⟩
   ·have s0:A.tmps[15]?.getD undef = .agg bV:=(ae.aU A 15).symm.trans (hI.a0 (he 0 (by kernel_rfl)))
    exact vQ rfl k2 s0 hI.b0 vP rfl Ta (HI.out.w3 undef)
   ·have s0:A.tmps[16]?.getD undef = .agg #[.int .i64 l,.int .i64 c]:=(ae.aU A 16).symm.trans (hI.a1 (he 1 (by kernel_rfl)))
    exact vQ rfl k3 s0 hI.b1 OV rfl (Tc l c) (HI.out.w4 undef)
   ·have s0:A.tmps[17]?.getD undef = .int .i64 er:=(ae.aU A 17).symm.trans (hI.a2 (he 2 (by kernel_rfl)))
    have cc:=hI.b2.c0;have ff:=hI.b2.free 0;have l2:=hI.b2.lt;refine kP (Y:=oZ undef (W.setCell ⟨g4,0,none⟩ (.int .i64 er))) (fun u W' h=>by obtain ⟨rfl,rfl⟩:=h;exact HI.out.w5 undef) ?_;clear hI he;go_simp
    exact ⟨rfl,rfl⟩
  ·intro d xs W hd hI
   have x0:=hI.a0 (hd 0 (by decide));have x1:=hI.a1 (hd 1 (by decide));have x2:=hI.a2 (hd 2 (by decide));have HI:=Lib.hid hI;simp only [ae.sV,Act.put,List.setIfInBounds_toArray,List.set_cons_zero,List.set_cons_succ,Nat.zero_add,Nat.reduceAdd,x0,x1,x2]
   have r0:W.cell? ⟨w.heap.size,0,none⟩=some (.slice none 0 0):=by rw [<- hg2];exact hI.b0.cell 0
   have r1:W.cell? ⟨w.heap.size,1,none⟩=some (.slice none 0 0):=by rw [<- hg2];exact hI.b0.cell 1
   have r2:W.cell? ⟨w.heap.size,2,none⟩=some (.bool false):=by rw [<- hg2];exact hI.b0.cell 2
   have r3:W.cell? ⟨w.heap.size,3,none⟩=some (.pointer none):=by rw [<- hg2];exact hI.b0.cell 3
   obtain ⟨p0,p1⟩:=hI.b1.e2;have q0:=hI.b2.c0;clear hI;go_wp2_with fail
   show Leaves _ _ _ _ [] .returning W
   refine ⟨.tuple #[.agg bV,.agg #[.int .i64 l,.int .i64 c],.int .i64 er],?_,?_⟩
   ·simp [results,Tryz.results5,go_sem,r0,r1,r2,r3,p0,p1,q0,bV]
   ·rw [HE.out]
    exact ⟨HI.out.k,rfl⟩
 | ok ts =>
  rw [hl] at hm;obtain ⟨v,rfl,hown⟩:=hm;have hp:=zF hl;obtain ⟨gp,cap',hv⟩:∃ gp cap',v = .slice (some ⟨gp,0,none⟩) ts.length cap':=by
   rcases hown.2 with ⟨_,h0⟩ | ⟨g',cap2,cur,h,_⟩
   ·have:=hp.some;omega
   ·exact ⟨g',cap2,h⟩
  subst hv;have HL:=Lib.hid hl;have Uh:=Lib.hid hp;have HOW:=Lib.hid hown
  have H2:=Lib.hid (show Sits (((w1.setCell ⟨g3,0,none⟩ (.int .i64 0)).setCell ⟨g3,1,none⟩ (.int .i64 0)).setCell ⟨g4,0,none⟩ (.int .i64 0)) g2 27 bV/\Sits (((w1.setCell ⟨g3,0,none⟩ (.int .i64 0)).setCell ⟨g3,1,none⟩ (.int .i64 0)).setCell ⟨g4,0,none⟩ (.int .i64 0)) g3 29 #[.int .i64 0,.int .i64 0]/\Sits (((w1.setCell ⟨g3,0,none⟩ (.int .i64 0)).setCell ⟨g3,1,none⟩ (.int .i64 0)).setCell ⟨g4,0,none⟩ (.int .i64 0)) g4 30 #[.int .i64 0]/\aa (fun x=>x=g3 \/ x=g4) w1 (((w1.setCell ⟨g3,0,none⟩ (.int .i64 0)).setCell ⟨g3,1,none⟩ (.int .i64 0)).setCell ⟨g4,0,none⟩ (.int .i64 0)) from by
   have hg:=HG.out;have n1:g2≠g3:=by omega
   have n2:g2≠g4:=by omega
   exact ⟨((Xq.out.far (p:=⟨g3,0,none⟩) n1 _).far (p:=⟨g3,1,none⟩) n1 _).far (p:=⟨g4,0,none⟩) n2 _,((UO.out.put 0 _).put 1 _).far (p:=⟨g4,0,none⟩) n34 _,((UQ.out.far (p:=⟨g3,0,none⟩) n34.symm _).far (p:=⟨g3,1,none⟩) n34.symm _).put 0 _,
    (((aa.refl _ w1).put (p:=⟨g3,0,none⟩) (.inl (.inl rfl)) _).put (p:=⟨g3,1,none⟩) (.inl (.inl rfl)) _).put (p:=⟨g4,0,none⟩) (.inl (.inr rfl)) _⟩)
  clear hl hown hp;go_upto_region 4 with fail
  generalize ((w1.setCell ⟨g3,0,none⟩ (.int .i64 0)).setCell ⟨g3,1,none⟩ (.int .i64 0)).setCell ⟨g4,0,none⟩ (.int .i64 0)=W2 at H2 ⊢;clear c30 c31 c40 f30 f31 f40 l3 l4;have HW:=Lib.hid (show Below w.heap.size w W2 from behind HB1.out H2.out.2.2.2 HB1.out.size (fun x e=>by have:=HG.out;omega))
  have HRD:=Lib.hid (UN (gR:=W2.heap.size) (W:=W2.alloc (.cells #[.slice (some ⟨gp,0,none⟩) ts.length cap'] 51)) HX.out Uh.out HB1.out HOW.out rfl (H2.out.2.2.2.alloc _)
   (fun x e=>⟨by have:=HG.out;omega,fun e2=>by
    subst e2;rcases e with rfl | rfl
    ·exact aK HOW.out UO.out (by decide) rfl
    ·exact aK HOW.out UQ.out (by decide) rfl⟩) (Sits.new _ _ _) HW.out.size)
  have HT:=Lib.hid (Ro Uh.out 0 (qB ts) _ (Aj Uh.out) HRD.out);have HA:=Lib.hid (show Below w.heap.size w (W2.alloc (.cells #[.slice (some ⟨gp,0,none⟩) ts.length cap'] 51)) from HW.out.alloc HW.out.size _);go_wp2_with fail
  refine HT.out.mono ?_;rintro e w4 ⟨hk,hm⟩;have hgR:∀ g,g<W2.heap.size->g≠W2.heap.size:=fun g h=>by omega
  have Z2:=(H2.out.1.alloc (.cells #[.slice (some ⟨gp,0,none⟩) ts.length cap'] 51)).keep hk (hgR _ H2.out.1.lt);have Z3:=(H2.out.2.1.alloc (.cells #[.slice (some ⟨gp,0,none⟩) ts.length cap'] 51)).keep hk (hgR _ H2.out.2.1.lt);have Z4:=(H2.out.2.2.1.alloc (.cells #[.slice (some ⟨gp,0,none⟩) ts.length cap'] 51)).keep hk (hgR _ H2.out.2.2.1.lt);have sZ:=Lib.hid (show Below w.heap.size w w4 from behind HA.out hk HA.out.size (fun x e=>by rw [e];exact HW.out.size));have HZ2:=Lib.hid Z2;have HZ3:=Lib.hid Z3;have vV:=Lib.hid Z4;have HGL:=Lib.hid (show g2<W2.heap.size/\g3<W2.heap.size/\g4<W2.heap.size from ⟨H2.out.1.lt,H2.out.2.1.lt,H2.out.2.2.1.lt⟩);have hg2:=HG.out.1;clear hk hgR;cases ho:qB ts with
  | bad j er =>
   rw [ho] at hm;simp only at hm
   subst hm;have HE:=Lib.hid (ma HL.out ho);clear ho Z2 Z3 Z4;go_wp2_with fail
   show Leaves _ _ _ _ [_] (.panicking (GM (tk ts j) er)) w4
   refine leaves_cons (f:=11) (args:=#[.pointer (some ⟨g2,0,none⟩),.pointer (some ⟨g3,0,none⟩),.pointer (some ⟨g4,0,none⟩)]) (by simp) (by rw [hg2];simp [go_sem]) ?_;refine (FU g2 g3 g4 _ _ _ (tk ts j).line (tk ts j).xy er [] w4 HZ2.out rfl HZ3.out rfl vV.out).mono ?_;rintro e u' w5 ⟨rfl,rfl,y2,y3,y4,hk⟩;have Gc:=Lib.hid (show Below w.heap.size w w5 from behind sZ.out hk sZ.out.size (fun x e=>by have:=HG.out;omega));show Leaves _ _ _ _ [] .returning w5
   have r0:w5.cell? ⟨w.heap.size,0,none⟩=some (.slice none 0 0):=by rw [<- hg2];exact y2.cell 0
   have r1:w5.cell? ⟨w.heap.size,1,none⟩=some (.slice none 0 0):=by rw [<- hg2];exact y2.cell 1
   have r2:w5.cell? ⟨w.heap.size,2,none⟩=some (.bool false):=by rw [<- hg2];exact y2.cell 2
   have r3:w5.cell? ⟨w.heap.size,3,none⟩=some (.pointer none):=by rw [<- hg2];exact y2.cell 3
   obtain ⟨p0,p1⟩:=y3.e2;have q0:=y4.c0;clear y2 y3 y4 hk;refine ⟨.tuple #[.agg bV,.agg #[.int .i64 (tk ts j).line,.int .i64 (tk ts j).xy],.int .i64 er],?_,?_⟩
   ·simp [results,Tryz.results5,go_sem,r0,r1,r2,r3,p0,p1,q0,bV]
   ·rw [HE.out]
    exact ⟨Gc.out,rfl⟩
  | ok t k =>
   rw [ho] at hm;obtain ⟨vi,vt,pa,rfl,hv⟩:=hm;have HE:=Lib.hid (nU HL.out ho);have HV:=Lib.hid hv;obtain ⟨pi,ci,rfl⟩:∃ pi ci,vi = .slice pi t.init.length ci:=by obtain ⟨p,c,h,_⟩:=hv.init.len;exact ⟨p,c,h⟩
   obtain ⟨pt,ct,rfl⟩:∃ pt ct,vt = .slice pt t.threads.length ct:=by obtain ⟨vs,h1,_⟩:=hv.threads;obtain ⟨p,c,h,_⟩:=h1.len;exact ⟨p,c,h⟩
   have n23:g3≠w.heap.size:=by have:=HG.out;omega
   have n24:g4≠w.heap.size:=by have:=HG.out;omega
   have UR:=Lib.hid (show Sits w4 w.heap.size 27 bV from hg2 ▸ Z2);have Vs:=bK w4 w.heap.size (dL (.slice pi t.init.length ci) (.slice pt t.threads.length ct) t.all pa);have y2:Sits (w4.setRow w.heap.size (dL (.slice pi t.init.length ci) (.slice pt t.threads.length ct) t.all pa)) w.heap.size 27 (dL (.slice pi t.init.length ci) (.slice pt t.threads.length ct) t.all pa):=setRow_heap _ _ _ _ _ _ UR.out;have y3:=Z3.keep Vs n23;have y4:=Z4.keep Vs n24
   have hVR:=hv.keep (Stable.keeps Vs fun y cs hs hx=>by subst hx;exact hs.differ UR.out (by decide) rfl) (fun g hg j u hu=>by
    rw [World.cell?_of_block (Vs.block g (World.block_lt_of_cell? _ _ hu) (fun e=>by
     have h1:=HGL.out;have h2:(W2.alloc (.cells #[.slice (some ⟨gp,0,none⟩) ts.length cap'] 51)).heap.size=W2.heap.size+1:=by simp
     omega))];exact hu)
   have hBR:=behind sZ.out Vs sZ.out.size (fun x e=>by rw [e];exact Nat.le_refl _);unfold eU;clear ho hv Z2 Z3 Z4 Vs;generalize hWR:w4.setRow w.heap.size (dL (.slice pi t.init.length ci) (.slice pt t.threads.length ct) t.all pa)=WR at y2 y3 y4 hVR hBR;have NC:=Lib.hid hWR;clear hWR;obtain ⟨p30,p31⟩:=y3.e2;have p40:=y4.c0;have f30:=y3.free 0;have f31:=y3.free 1;have f40:=y4.free 0;have l3:=y3.lt;have l4:=y4.lt;obtain ⟨b0,b1,b2,b3⟩:=y2.e4;have HVR:=Lib.hid hVR;have HBR:=Lib.hid hBR;have ZQ:=Lib.hid y2;have HY3:=Lib.hid y3;have UT:=Lib.hid y4;clear y2 y3 y4 hVR hBR;go_wp2_with (refine wpList_store_row rfl 27 _ _ rfl w.heap.size (dL (.slice pi t.init.length ci) (.slice pt t.threads.length ct) t.all pa) rfl rfl 27 bV UR.out vP rfl (Oz _ _ _ _ _ _ _ _) ?_;rw [NC.out])
   have hU:∀ g,(W2.alloc (.cells #[.slice (some ⟨gp,0,none⟩) ts.length cap'] 51)).heap.size<=g->g≠g3/\g≠g4:=fun g hg=>by
    have h1:=HGL.out;have h2:(W2.alloc (.cells #[.slice (some ⟨gp,0,none⟩) ts.length cap'] 51)).heap.size=W2.heap.size+1:=by simp
    omega
   have hk:aa (fun x=>x=g3 \/ x=g4) WR (((WR.setCell ⟨g3,0,none⟩ (.int .i64 0)).setCell ⟨g3,1,none⟩ (.int .i64 0)).setCell ⟨g4,0,none⟩ (.int .i64 0)) :=
    (((aa.refl _ WR).put (p:=⟨g3,0,none⟩) (.inl (.inl rfl)) _).put (p:=⟨g3,1,none⟩) (.inl (.inl rfl)) _).put (p:=⟨g4,0,none⟩) (.inl (.inr rfl)) _
   have hy3:Sits (((WR.setCell ⟨g3,0,none⟩ (.int .i64 0)).setCell ⟨g3,1,none⟩ (.int .i64 0)).setCell ⟨g4,0,none⟩ (.int .i64 0)) g3 29 #[.int .i64 0,.int .i64 0]:=((HY3.out.put 0 _).put 1 _).far (p:=⟨g4,0,none⟩) n34 _;have hy4:Sits (((WR.setCell ⟨g3,0,none⟩ (.int .i64 0)).setCell ⟨g3,1,none⟩ (.int .i64 0)).setCell ⟨g4,0,none⟩ (.int .i64 0)) g4 30 #[.int .i64 0]:=((UT.out.far (p:=⟨g3,0,none⟩) n34.symm _).far (p:=⟨g3,1,none⟩) n34.symm _).put 0 _;have hy2:=ZQ.out.keep hk (by rintro (e | e);exact n23 e.symm;exact n24 e.symm)
   have hVE:=HVR.out.keep (Stable.keeps hk fun y cs hs hx=>by
    rcases hx with rfl | rfl
    ·exact hs.differ HY3.out (by decide) rfl
    ·exact hs.differ UT.out (by decide) rfl) (fun g hg j u hu=>by
    rw [World.cell?_of_block (hk.block g (World.block_lt_of_cell? _ _ hu) (fun e=>e.elim (hU g hg).1 (hU g hg).2))];exact hu)
   have YG:=behind HBR.out hk HBR.out.size (fun x e=>by have:=HG.out;omega);generalize ((WR.setCell ⟨g3,0,none⟩ (.int .i64 0)).setCell ⟨g3,1,none⟩ (.int .i64 0)).setCell ⟨g4,0,none⟩ (.int .i64 0)=WE at hy2 hy3 hy4 hVE YG ⊢;clear p30 p31 p40 f30 f31 f40 l3 l4 b0 b1 b2 b3 hk hU;show Leaves _ _ _ _ [_] .returning WE
   refine leaves_cons (f:=11) (args:=#[.pointer (some ⟨g2,0,none⟩),.pointer (some ⟨g3,0,none⟩),.pointer (some ⟨g4,0,none⟩)]) (by simp) (by rw [hg2];simp [go_sem]) ?_;refine (Iq g2 g3 g4 WE).mono ?_;rintro e u' w5 ⟨rfl,rfl,hb5⟩;have y2:=hy2.below hb5 hy2.lt;have y3:=hy3.below hb5 hy3.lt;have y4:=hy4.below hb5 hy4.lt;have Gc:=Lib.hid (YG.trans (hb5.mono YG.size));have HV5:=Lib.hid (hVE.v.below hb5);show Leaves _ _ _ _ [] .returning w5
   obtain ⟨r0,r1,r2,r3⟩:=y2.e4;obtain ⟨p0,p1⟩:=y3.e2;have q0:=y4.c0;clear y2 y3 y4 hb5 hy2 hy3 hy4 hVE YG;refine ⟨.tuple #[eU (.slice pi t.init.length ci) (.slice pt t.threads.length ct) t.all (.pointer pa),.agg #[.int .i64 0,.int .i64 0],.int .i64 0],?_,?_⟩
   ·simp [results,Tryz.results5,go_sem,r0,r1,r2,r3,p0,p1,q0,eU]
   ·rw [HE.out]
    exact ⟨Gc.out,_,_,_,rfl,HV5.out⟩
end Go.Proofs.YtaanhmndeobgbaaGreatDoor.fT
