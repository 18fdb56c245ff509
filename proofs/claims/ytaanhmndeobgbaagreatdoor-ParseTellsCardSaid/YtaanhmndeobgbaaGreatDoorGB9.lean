/- Part 20 of the proof: what is used of the texts StmJ. -/
import Derived.Test.YtaanhmndeobgbaaGreatDoorGB8
import Derived.Test.YtaanhmndeobgbaaGreatDoorGB2
import Derived.Laws.EntriesVeiled
set_option maxRecDepth 100000
set_option maxHeartbeats 2000000
namespace Go.Proofs.YtaanhmndeobgbaaGreatDoor.Prog
open Go.RowKit Mem Go.Proofs.YtaanhmndeobgbaaGreatDoor.Expr ae Go.Lib
theorem rE (w:World):Calls Tryz.prog 24 #[] w fun e w'=>∃ sB mh mB,e = .returned (.func (.func 60) #[] #[.pointer (some ⟨mB,0,none⟩),.pointer (some ⟨mh,0,none⟩)])/\zu w' sB mh mB/\Below w.heap.size w w':=by
 go_enter Tryz.func24,Tryz.ntmps24;go_wp2_with fail
 go_ret;exact ⟨w.heap.size+1,w.heap.size+1+1,w.heap.size,rfl,⟨(Sits.made (by simp) _ _).alloc _,Sits.made (by simp) _ _⟩,(((Below.refl _ _).alloc (Nat.le_refl _) _).alloc (by simp) _).alloc (by simp;omega) _⟩
theorem QE:Tryz.prog.underlying 78=some (.struct (Tryz.prog.fieldsOf 78)):=by kernel_rfl
theorem Wi:Tryz.prog.stoodInHeld 78=false:=by kernel_rfl
theorem Dp (x n x' n':Nat) (W:World):(binOp .neq 78 (.agg #[.int .u8 x,.int .u64 n]) (.agg #[.int .u8 x',.int .u64 n'])).run Tryz.prog W = .ok (.bool (!(decide ((x,n)=(x',n'))))) W:=by
 have u3:=Tryz.underlying5;have a3:=Tryz.isAgg5;have z3:=Tryz.sizeOf5;have u4:=Tryz.underlying59;have a4:=Tryz.isAgg59;have z4:=Tryz.sizeOf59;rw [run_neq_struct,show (10000:Nat)=9999+1 from rfl,run_equalIn_agg W 9999 78 _ _ QE Wi];simp only [Program.fieldsOf,Tryz.underlying78]
 by_cases h:x=x' /\ n=n'
 ·obtain ⟨rfl,rfl⟩:=h
  go_simp
 ·have e:decide ((x,n)=(x',n'))=false:=by
   rw [decide_eq_false_iff_not];intro h';injection h' with h1 h2;exact h ⟨h1,h2⟩
  rw [e];go_simp
  intro h1 h2;exact absurd ⟨by omega,by omega⟩ h
theorem G9 (l l':List (Nat × Nat)) (hs:l.length<=1000) (u v:Value) (w:World) (hu:qy w u l) (hv:qy w v l') :
  Calls Tryz.prog 22 #[u,v] w fun e w'=>Made (.returned (.bool (decide (l=l')))) w e w':=by
 have HU:=hid hu;have HV:=hid hv;obtain ⟨p,c,rfl⟩:=hu.len;obtain ⟨p',c',rfl⟩:=hv.len;have i1:(l.length:Int)<=1000:=by omega
 by_cases hll:l.length=l'.length
 ·rw [<- hll]
  have wh:=hid hll;clear hu hv hs hll;go_enter Tryz.func22,Tryz.ntmps22;go_wp2_with fail
  go_loopg [13] l.length (fun gg v13 wx=>∃ k,k<=l.length/\gg=l.length - k/\v13 = .int .i64 (k:Nat)/\Hid (∀ j,j<k->l[j]? = l'[j]?)/\Hid (Below w.heap.size w wx))
  case atStart=>exact ⟨0,by omega,by omega,rfl,hid (fun j hj=>by omega),hid (Below.refl _ _)⟩
  case round =>
   obtain ⟨k,hk,rfl,rfl,HJ,HB⟩:=hrel;by_cases hlt:k<l.length
   ·have hlt':k<l'.length:=by rw [<- wh.out];exact hlt
    have h1:l[k]? = some l[k]:=List.getElem?_eq_getElem hlt;have h2:l'[k]? = some l'[k]:=List.getElem?_eq_getElem hlt';obtain ⟨g,o,cap,e1,c1,c2⟩:=(HU.out.below HB.out).at h1;obtain ⟨g',o',cap',e2,d1,d2⟩:=(HV.out.below HB.out).at h2;injection e1 with e1 _ e3;injection e2 with e2 _ e4;subst e1 e2 e3 e4;have lg:=World.block_lt_of_cell? _ _ c1;have lg':=World.block_lt_of_cell? _ _ d1
    have yt:=hid (show l[k]=l'[k]->∀ j,j<k+1->l[j]? = l'[j]? from fun e j hj=>by
     by_cases h:j<k
     ·exact HJ.out j h
     ·obtain rfl:j=k:=by omega
      rw [h1,h2,e])
    have fH:=hid (show l[k]≠l'[k]->l≠l' from fun hne e=>hne (by
     have h3:l'[k]? = some l[k]:=by rw [<- e];exact h1
     rw [h2] at h3
     exact (Option.some.inj h3).symm))
    generalize l[k]=a at c1 c2 yt fH;generalize l'[k]=b at d1 d2 yt fH;obtain ⟨x,n⟩:=a;obtain ⟨x',n'⟩:=b;simp only at c1 c2 d1 d2
    have j1:(k:Int)<(l.length:Int):=by omega
    have j2:(k:Int)<(l'.length:Int):=by omega
    have j0:(0:Int)<=(k:Int):=by omega
    have hq:=Dp x n x' n';clear h1 h2 hlt';by_cases he:(x,n)=(x',n')
    ·have HE:=hid (yt.out he)
     rw [decide_eq_true he] at hq;clear he yt fH;go_wp2_with fail
     go_quiet (fail)
     go_wp2_with fail
     go_roundg (l.length - (k+1))
     case measure=>omega
     case rel=>exact ⟨k+1,by omega,rfl,by go_num,HE,hid (bu HB.out _)⟩
    ·have HN:=hid (decide_eq_false (fH.out he))
     rw [decide_eq_false he] at hq;clear he yt fH;go_wp2_with fail
     go_quiet (fail)
     go_wp2_with fail
     go_ret;exact ⟨cZ HN.out.symm,bu HB.out _⟩
   ·obtain rfl:k=l.length:=by omega
    have HE:=hid (show decide (l=l')=true from decide_eq_true (List.ext_getElem? fun j=>by
     by_cases h:j<l.length
     ·exact HJ.out j h
     ·rw [List.getElem?_eq_none (by omega),List.getElem?_eq_none (by have:=wh.out;omega)]))
    go_wp2_with fail
    go_ret;exact ⟨cZ HE.out.symm,HB.out⟩
 ·have HN:=hid (show decide (l=l')=false from decide_eq_false fun e=>hll (by rw [e]))
  have ne:¬ ((l.length:Int)=(l'.length:Int)):=by omega
  clear hu hv hs hll HU HV;go_enter Tryz.func22,Tryz.ntmps22;go_wp2_with fail
  go_ret;exact ⟨cZ HN.out.symm,Below.refl _ _⟩
theorem AR (l l':List az) (hl:l.length<=1000) (hf:∀ b ∈ l,b.fine/\b.over 8=false) (u v:Value) (w:World) (sB mh mB:Nat) (hE:zu w sB mh mB) (hu:kN w u l) (hv:kN w v l') :
  Calls Tryz.prog 23 #[u,v,.func (.func 60) #[] #[.pointer (some ⟨mB,0,none⟩),.pointer (some ⟨mh,0,none⟩)]] w
   fun e w'=>Made (.returned (.bool (decide (l=l')))) w e w':=by
 have HU:=hid hu;have HV:=hid hv;have qF:=hid hE;have HF:=hid hf;obtain ⟨p,c,rfl⟩:=hu.len;obtain ⟨p',c',rfl⟩:=hv.len;have hen:=vB;unfold Expr.Enters at hen;have i1:(l.length:Int)<=1000:=by omega
 by_cases hll:l.length=l'.length
 ·rw [<- hll]
  have wh:=hid hll;clear hu hv hl hll hE hf;go_enter Tryz.func23,Tryz.ntmps23;go_wp2_with fail
  go_loopg [17] l.length (fun gg v17 wx=>∃ k,k<=l.length/\gg=l.length - k/\v17 = .int .i64 (k:Nat)/\Hid (∀ j,j<k->l[j]? = l'[j]?)/\Hid (Below w.heap.size w wx))
  case atStart=>exact ⟨0,by omega,by omega,rfl,hid (fun j hj=>by omega),hid (Below.refl _ _)⟩
  case round =>
   obtain ⟨k,hk,rfl,rfl,HJ,HB⟩:=hrel;by_cases hlt:k<l.length
   ·have hlt':k<l'.length:=by rw [<- wh.out];exact hlt
    have h1:l[k]? = some l[k]:=List.getElem?_eq_getElem hlt;have h2:l'[k]? = some l'[k]:=List.getElem?_eq_getElem hlt';obtain ⟨g,o,cap,x,e1,c1,hx⟩:=(HU.out.below HB.out).at h1;obtain ⟨g',o',cap',y,e2,d1,hy⟩:=(HV.out.below HB.out).at h2;injection e1 with e1 _ e3;injection e2 with e2 _ e4;subst e1 e2 e3 e4;have lg:=World.block_lt_of_cell? _ _ c1;have lg':=World.block_lt_of_cell? _ _ d1
    have yt:=hid (show l[k]=l'[k]->∀ j,j<k+1->l[j]? = l'[j]? from fun e j hj=>by
     by_cases h:j<k
     ·exact HJ.out j h
     ·obtain rfl:j=k:=by omega
      rw [h1,h2,e])
    have fH:=hid (show l[k]≠l'[k]->l≠l' from fun hne e=>hne (by
     have h3:l'[k]? = some l[k]:=by rw [<- e];exact h1
     rw [h2] at h3
     exact (Option.some.inj h3).symm))
    have ZC:=HF.out _ (List.mem_of_getElem? h1);have HC:=hid (KC sB mh mB (l[k].size+1) l[k] (by omega) ZC.1 ZC.2 l'[k] x y wr (qF.out.below HB.out) hx hy);obtain ⟨px,cx,rfl,_⟩:=hx.len;obtain ⟨py,cy,rfl,_⟩:=hy.len;have HE:=hid (show decide (l[k]=l'[k])=true->∀ j,j<k+1->l[j]? = l'[j]? from fun h=>yt.out (of_decide_eq_true h));have HN:=hid (show decide (l[k]=l'[k])=false->decide (l=l')=false from fun h=>decide_eq_false (fH.out (of_decide_eq_false h)));clear yt fH hx hy ZC h1 h2;generalize decide (l[k]=l'[k])=r at HC HE HN;generalize l[k].len=n1 at c1 HC;generalize l'[k].len=n2 at d1 HC;have j1:(k:Int)<(l.length:Int):=by omega
    have j2:(k:Int)<(l'.length:Int):=by have:=wh.out;omega
    have j0:(0:Int)<=(k:Int):=by omega
    cases r
    ·have HNN:=hid (HN.out rfl)
     clear HE HN;go_wp2_with fail
     refine HC.out.mono ?_;rintro e w2 ⟨rfl,hb⟩;have HB2:=hid (HB.out.trans (hb.mono HB.out.size));clear hb;go_wp2_with fail
     go_ret;exact ⟨cZ HNN.out.symm,HB2.out⟩
    ·have Vh:=hid (HE.out rfl)
     clear HE HN;go_wp2_with fail
     refine HC.out.mono ?_;rintro e w2 ⟨rfl,hb⟩;have HB2:=hid (HB.out.trans (hb.mono HB.out.size));clear hb;go_wp2_with fail
     go_roundg (l.length - (k+1))
     case measure=>omega
     case rel=>exact ⟨k+1,by omega,rfl,by go_num,Vh,HB2⟩
   ·obtain rfl:k=l.length:=by omega
    have HE:=hid (show decide (l=l')=true from decide_eq_true (List.ext_getElem? fun j=>by
     by_cases h:j<l.length
     ·exact HJ.out j h
     ·rw [List.getElem?_eq_none (by omega),List.getElem?_eq_none (by have:=wh.out;omega)]))
    go_wp2_with fail
    go_ret;exact ⟨cZ HE.out.symm,HB.out⟩
 ·have HN:=hid (show decide (l=l')=false from decide_eq_false fun e=>hll (by rw [e]))
  have ne:¬ ((l.length:Int)=(l'.length:Int)):=by omega
  clear hu hv hll HU HV qF HF hE hf hl;go_enter Tryz.func23,Tryz.ntmps23;go_wp2_with fail
  go_ret;exact ⟨cZ HN.out.symm,Below.refl _ _⟩
structure Ts.good (t:Ts):Prop where
 init:t.init.length<=1000
 threads:t.threads.length<=1000
 each:∀ b ∈ t.threads,b.fine/\b.over 8=false
 ask:okO t.ask
theorem Wj (s t:Ts):(decide (s.all=t.all) && decide (s.ask=t.ask) && decide (s.init=t.init) && decide (s.threads=t.threads))=decide (s=t):=by
 obtain ⟨i,th,al,q⟩:=s;obtain ⟨i',th',al',q'⟩:=t;rw [Bool.eq_iff_iff];simp only [Bool.and_eq_true,decide_eq_true_eq,Ts.mk.injEq]
 constructor
 ·rintro ⟨⟨⟨h1,h2⟩,h3⟩,h4⟩;exact ⟨h3,h4,h1,h2⟩
 ·rintro ⟨h3,h4,h1,h2⟩;exact ⟨⟨⟨h1,h2⟩,h3⟩,h4⟩
def zx:Value->World->Prop:=fun u w=>∃ sB mh mB,u = .func (.func 60) #[] #[.pointer (some ⟨mB,0,none⟩),.pointer (some ⟨mh,0,none⟩)]/\zu w sB mh mB
theorem kT:yc zx:=fun _ _ _ ⟨sB,mh,mB,hu,hE⟩ hb=>⟨sB,mh,mB,hu,hE.below hb⟩
def Jp (w:World) (vi vt va qG oz xQ:Value) (al al':Bool):World:=(w.alloc (.cells #[vi,vt,.bool al,va] 27)).alloc (.cells #[qG,oz,.bool al',xQ] 27)
structure Ha (w0:World) (g1 g2:Nat) (c1 c2:Array Value) (s t:Ts) (vi vt va qG oz xQ:Value) (W:World):Prop where
 s1:Sits W g1 27 c1
 s2:Sits W g2 27 c2
 s:nO W s vi vt va
 t:nO W t qG oz xQ
 low:Below w0.heap.size w0 W
theorem Ha.grown {w0:World} {g1 g2:Nat} {c1 c2:Array Value} {s t:Ts} {vi vt va qG oz xQ:Value} {W W':World} (h:Ha w0 g1 g2 c1 c2 s t vi vt va qG oz xQ W) (hb:Below W.heap.size W W'):Ha w0 g1 g2 c1 c2 s t vi vt va qG oz xQ W' :=
 ⟨h.s1.below hb h.s1.lt,h.s2.below hb h.s2.lt,h.s.below hb,h.t.below hb,h.low.trans (hb.mono h.low.size)⟩
theorem KF (s t:Ts) (hs:s.good) (vi vt va qG oz xQ:Value) (w:World) (hS:nO w s vi vt va) (hT:nO w t qG oz xQ) :
  Calls Tryz.prog 7 #[eU vi vt s.all va,eU qG oz t.all xQ] w fun e w'=>Made (.returned (.bool (decide (s=t)))) w e w':=by
 rw [<- Wj];have hlow:Below w.heap.size w (Jp w vi vt va qG oz xQ s.all t.all):=((Below.refl _ _).alloc (Nat.le_refl _) _).alloc (by simp) _;have H0:Ha w w.heap.size (w.heap.size+1) #[vi,vt,.bool s.all,va] #[qG,oz,.bool t.all,xQ] s t vi vt va qG oz xQ (Jp w vi vt va qG oz xQ s.all t.all):=⟨(Sits.new _ _ _).alloc _,Sits.made (by simp) _ _,hS.below hlow,hT.below hlow,hlow⟩
 have HP:=hid H0;have HA:=hid (fun W (h:Ha w w.heap.size (w.heap.size+1) #[vi,vt,.bool s.all,va] #[qG,oz,.bool t.all,xQ] s t vi vt va qG oz xQ W)=>pY s.ask t.ask hs.ask va xQ W h.s.ask h.t.ask);have HI:=hid (fun W (h:Ha w w.heap.size (w.heap.size+1) #[vi,vt,.bool s.all,va] #[qG,oz,.bool t.all,xQ] s t vi vt va qG oz xQ W)=>G9 s.init t.init hs.init vi qG W h.s.init h.t.init);have HB:=hid (fun (sB mh mB:Nat) W (h:Ha w w.heap.size (w.heap.size+1) #[vi,vt,.bool s.all,va] #[qG,oz,.bool t.all,xQ] s t vi vt va qG oz xQ W) (hE:zu W sB mh mB)=>AR s.threads t.threads hs.threads hs.each vt oz W sB mh mB hE h.s.threads h.t.threads);obtain ⟨pi,ci,rfl⟩:=hS.init.len;obtain ⟨pt,ct,rfl⟩:=hS.threads.len;obtain ⟨pa,rfl,_⟩:=hS.ask.ptr;obtain ⟨Jq,Jr,rfl⟩:=hT.init.len;obtain ⟨Fu,Fv,rfl⟩:=hT.threads.len;obtain ⟨pa',rfl,_⟩:=hT.ask.ptr;have GN:Hid ((s.all == t.all)=decide (s.all=t.all)):=hid (by cases s.all <;> cases t.all <;> rfl);clear hlow H0 hs hS hT;generalize decide (s.all=t.all)=r1 at GN ⊢;generalize decide (s.ask=t.ask)=r2 at HA ⊢;generalize decide (s.init=t.init)=r3 at HI ⊢;generalize decide (s.threads=t.threads)=r4 at HB ⊢;unfold eU;go_enter Tryz.func7,Tryz.ntmps7;go_wp2_with fail
 change Code.wp _ _ _ _ (Jp w (.slice pi s.init.length ci) (.slice pt s.threads.length ct) (.pointer pa) (.slice Jq t.init.length Jr) (.slice Fu t.threads.length Fv) (.pointer pa') s.all t.all);generalize Jp w (.slice pi s.init.length ci) (.slice pt s.threads.length ct) (.pointer pa) (.slice Jq t.init.length Jr) (.slice Fu t.threads.length Fv) (.pointer pa') s.all t.all=wa at HP ⊢;generalize w.heap.size+1=g2 at HP HA HI HB ⊢;generalize hg1:w.heap.size=g1 at HP HA HI HB ⊢;cases r1
 ·
  refine oM [5,6,7,8,9,10,11,12,13,14,15,16,17,18,19,20,21,22,23,24,25,26,27,28,29,30,31] [aV (.pointer (some ⟨g1,2,none⟩)),aV (.bool s.all),aV (.pointer (some ⟨g2,2,none⟩)),aV (.bool t.all),aV (.bool false),aV (.bool false),aV undef,aV undef,aV undef,aV undef,aV undef,aV (.bool false),aV (.bool false),aV undef,aV undef,aV undef,aV undef,aV undef,aV (.bool false),aV (.bool false),aV undef,aV undef,aV undef,aV undef,aV undef,aV undef,aV (.bool false)] (by kernel_rfl) (by kernel_rfl) (by kernel_rfl) (by kernel_rfl) (by rfl) (by simp only [List.mem_cons,List.not_mem_nil,or_false,forall_eq_or_imp,forall_eq];refine ⟨?_,?_,?_,?_,?_,?_,?_,?_,?_,?_,?_,?_,?_,?_,?_,?_,?_,?_,?_,?_,?_,?_,?_,?_,?_,?_,?_⟩ <;> first | exact eH _ | exact kT) ?_ ?_
  ·intro i o hi ho A W hW hk he
   simp only [List.length_cons,List.length_nil,Nat.zero_add,Nat.reduceAdd] at hi
   obtain rfl | rfl | rfl | rfl | rfl | rfl | rfl | rfl | rfl | rfl | rfl | rfl | rfl | rfl | rfl | rfl | rfl | rfl | rfl | rfl | rfl | rfl | rfl | rfl | rfl | rfl | rfl:i=0 \/ i=1 \/ i=2 \/ i=3 \/ i=4 \/ i=5 \/ i=6 \/ i=7 \/ i=8 \/ i=9 \/ i=10 \/ i=11 \/ i=12 \/ i=13 \/ i=14 \/ i=15 \/ i=16 \/ i=17 \/ i=18 \/ i=19 \/ i=20 \/ i=21 \/ i=22 \/ i=23 \/ i=24 \/ i=25 \/ i=26:=by omega
   all_goals (injection ho with ho;subst ho)
   all_goals try refine .inl ⟨gz rfl,?_⟩
   ·have hx:A.tmps[2]?.getD undef = .pointer (some ⟨g1,0,none⟩):=hk 2 (by rfl)
    go_simp
    exact ⟨rfl,Below.refl _ _⟩
   ·have hx:A.tmps[5]?.getD undef = .pointer (some ⟨g1,2,none⟩):=he 0 (by kernel_rfl)
    have cc:=(HP.out.grown hW).s1.cell 2;go_simp
    exact ⟨rfl,Below.refl _ _⟩
   ·have hx:A.tmps[3]?.getD undef = .pointer (some ⟨g2,0,none⟩):=hk 3 (by rfl)
    go_simp
    exact ⟨rfl,Below.refl _ _⟩
   ·have hx:A.tmps[7]?.getD undef = .pointer (some ⟨g2,2,none⟩):=he 2 (by kernel_rfl)
    have cc:=(HP.out.grown hW).s2.cell 2;go_simp
    exact ⟨rfl,Below.refl _ _⟩
   ·have hx:A.tmps[6]?.getD undef=(.bool s.all):=he 1 (by kernel_rfl)
    have hy:A.tmps[8]?.getD undef=(.bool t.all):=he 3 (by kernel_rfl);go_simp
    exact ⟨congrArg Value.bool GN.out,Below.refl _ _⟩
   ·have hx:A.tmps[9]?.getD undef=(.bool false):=he 4 (by kernel_rfl)
    go_simp
    exact ⟨rfl,Below.refl _ _⟩
   iterate 5 (have hg:A.tmps[10]?.getD undef = .bool false:=he 5 (by kernel_rfl);exact .inr ⟨mf (d:=10) rfl (by kernel_rfl) hg,rfl⟩)
   ·have hx:A.tmps[10]?.getD undef=(.bool false):=he 5 (by kernel_rfl)
    have hy:A.tmps[15]?.getD undef=undef:=he 10 (by kernel_rfl);go_simp
    exact ⟨rfl,Below.refl _ _⟩
   ·have hx:A.tmps[16]?.getD undef=(.bool false):=he 11 (by kernel_rfl)
    go_simp
    exact ⟨rfl,Below.refl _ _⟩
   iterate 5 (have hg:A.tmps[17]?.getD undef = .bool false:=he 12 (by kernel_rfl);exact .inr ⟨mf (d:=17) rfl (by kernel_rfl) hg,rfl⟩)
   ·have hx:A.tmps[17]?.getD undef=(.bool false):=he 12 (by kernel_rfl)
    have hy:A.tmps[22]?.getD undef=undef:=he 17 (by kernel_rfl);go_simp
    exact ⟨rfl,Below.refl _ _⟩
   ·have hx:A.tmps[23]?.getD undef=(.bool false):=he 18 (by kernel_rfl)
    go_simp
    exact ⟨rfl,Below.refl _ _⟩
   iterate 6 (have hg:A.tmps[24]?.getD undef = .bool false:=he 19 (by kernel_rfl);exact .inr ⟨mf (d:=24) rfl (by kernel_rfl) hg,rfl⟩)
   ·have hx:A.tmps[24]?.getD undef=(.bool false):=he 19 (by kernel_rfl)
    have hy:A.tmps[30]?.getD undef=undef:=he 25 (by kernel_rfl);go_simp
    exact ⟨rfl,Below.refl _ _⟩
  ·intro xs W hW hV
   have ew:xs 26 = .bool false:=hV 26 (by simp);have lQ:=hid ((HP.out.grown hW).low);simp only [List.length_cons,List.length_nil,Nat.zero_add,Nat.reduceAdd,List.drop_succ_cons,List.drop_zero,gZ,Act.put,List.setIfInBounds_toArray,List.set_cons_zero,List.set_cons_succ,ew]
   clear hV hW ew;go_wp2_with fail
   go_ret;exact ⟨rfl,lQ.out⟩
 cases r2
 ·
  refine oM [5,6,7,8,9,10,11,12,13,14,15,16,17,18,19,20,21,22,23,24,25,26,27,28,29,30,31] [aV (.pointer (some ⟨g1,2,none⟩)),aV (.bool s.all),aV (.pointer (some ⟨g2,2,none⟩)),aV (.bool t.all),aV (.bool true),aV (.bool true),aV (.pointer (some ⟨g1,3,none⟩)),aV (.pointer pa),aV (.pointer (some ⟨g2,3,none⟩)),aV (.pointer pa'),aV (.bool false),aV (.bool false),aV (.bool false),aV undef,aV undef,aV undef,aV undef,aV undef,aV (.bool false),aV (.bool false),aV undef,aV undef,aV undef,aV undef,aV undef,aV undef,aV (.bool false)] (by kernel_rfl) (by kernel_rfl) (by kernel_rfl) (by kernel_rfl) (by rfl) (by simp only [List.mem_cons,List.not_mem_nil,or_false,forall_eq_or_imp,forall_eq];refine ⟨?_,?_,?_,?_,?_,?_,?_,?_,?_,?_,?_,?_,?_,?_,?_,?_,?_,?_,?_,?_,?_,?_,?_,?_,?_,?_,?_⟩ <;> first | exact eH _ | exact kT) ?_ ?_
  ·intro i o hi ho A W hW hk he
   simp only [List.length_cons,List.length_nil,Nat.zero_add,Nat.reduceAdd] at hi
   obtain rfl | rfl | rfl | rfl | rfl | rfl | rfl | rfl | rfl | rfl | rfl | rfl | rfl | rfl | rfl | rfl | rfl | rfl | rfl | rfl | rfl | rfl | rfl | rfl | rfl | rfl | rfl:i=0 \/ i=1 \/ i=2 \/ i=3 \/ i=4 \/ i=5 \/ i=6 \/ i=7 \/ i=8 \/ i=9 \/ i=10 \/ i=11 \/ i=12 \/ i=13 \/ i=14 \/ i=15 \/ i=16 \/ i=17 \/ i=18 \/ i=19 \/ i=20 \/ i=21 \/ i=22 \/ i=23 \/ i=24 \/ i=25 \/ i=26:=by omega
   all_goals (injection ho with ho;subst ho)
   all_goals try refine .inl ⟨gz rfl,?_⟩
   ·have hx:A.tmps[2]?.getD undef = .pointer (some ⟨g1,0,none⟩):=hk 2 (by rfl)
    go_simp
    exact ⟨rfl,Below.refl _ _⟩
   ·have hx:A.tmps[5]?.getD undef = .pointer (some ⟨g1,2,none⟩):=he 0 (by kernel_rfl)
    have cc:=(HP.out.grown hW).s1.cell 2;go_simp
    exact ⟨rfl,Below.refl _ _⟩
   ·have hx:A.tmps[3]?.getD undef = .pointer (some ⟨g2,0,none⟩):=hk 3 (by rfl)
    go_simp
    exact ⟨rfl,Below.refl _ _⟩
   ·have hx:A.tmps[7]?.getD undef = .pointer (some ⟨g2,2,none⟩):=he 2 (by kernel_rfl)
    have cc:=(HP.out.grown hW).s2.cell 2;go_simp
    exact ⟨rfl,Below.refl _ _⟩
   ·have hx:A.tmps[6]?.getD undef=(.bool s.all):=he 1 (by kernel_rfl)
    have hy:A.tmps[8]?.getD undef=(.bool t.all):=he 3 (by kernel_rfl);go_simp
    exact ⟨congrArg Value.bool GN.out,Below.refl _ _⟩
   ·have hx:A.tmps[9]?.getD undef=(.bool true):=he 4 (by kernel_rfl)
    go_simp
    exact ⟨rfl,Below.refl _ _⟩
   ·have hg:A.tmps[10]?.getD undef = .bool true:=he 5 (by kernel_rfl)
    refine .inl ⟨aD (d:=10) rfl (by kernel_rfl) hg,?_⟩;have hx:A.tmps[2]?.getD undef = .pointer (some ⟨g1,0,none⟩):=hk 2 (by rfl);go_simp
    exact ⟨rfl,Below.refl _ _⟩
   ·have hg:A.tmps[10]?.getD undef = .bool true:=he 5 (by kernel_rfl)
    refine .inl ⟨aD (d:=10) rfl (by kernel_rfl) hg,?_⟩;have hx:A.tmps[11]?.getD undef = .pointer (some ⟨g1,3,none⟩):=he 6 (by kernel_rfl);have cc:=(HP.out.grown hW).s1.cell 3;go_simp
    exact ⟨rfl,Below.refl _ _⟩
   ·have hg:A.tmps[10]?.getD undef = .bool true:=he 5 (by kernel_rfl)
    refine .inl ⟨aD (d:=10) rfl (by kernel_rfl) hg,?_⟩;have hx:A.tmps[3]?.getD undef = .pointer (some ⟨g2,0,none⟩):=hk 3 (by rfl);go_simp
    exact ⟨rfl,Below.refl _ _⟩
   ·have hg:A.tmps[10]?.getD undef = .bool true:=he 5 (by kernel_rfl)
    refine .inl ⟨aD (d:=10) rfl (by kernel_rfl) hg,?_⟩;have hx:A.tmps[13]?.getD undef = .pointer (some ⟨g2,3,none⟩):=he 8 (by kernel_rfl);have cc:=(HP.out.grown hW).s2.cell 3;go_simp
    exact ⟨rfl,Below.refl _ _⟩
   ·have hg:A.tmps[10]?.getD undef = .bool true:=he 5 (by kernel_rfl)
    refine .inl ⟨aD (d:=10) rfl (by kernel_rfl) hg,?_⟩;have hx:A.tmps[12]?.getD undef=(.pointer pa):=he 7 (by kernel_rfl);have hy:A.tmps[14]?.getD undef=(.pointer pa'):=he 9 (by kernel_rfl);go_simp
    refine Calls.mono (HA.out W (HP.out.grown hW)) ?_;rintro e' w' ⟨rfl,hb⟩;exact ⟨_,rfl,rfl,hb⟩
   ·have hx:A.tmps[10]?.getD undef=(.bool true):=he 5 (by kernel_rfl)
    have hy:A.tmps[15]?.getD undef=(.bool false):=he 10 (by kernel_rfl);go_simp
    exact ⟨rfl,Below.refl _ _⟩
   ·have hx:A.tmps[16]?.getD undef=(.bool false):=he 11 (by kernel_rfl)
    go_simp
    exact ⟨rfl,Below.refl _ _⟩
   iterate 5 (have hg:A.tmps[17]?.getD undef = .bool false:=he 12 (by kernel_rfl);exact .inr ⟨mf (d:=17) rfl (by kernel_rfl) hg,rfl⟩)
   ·have hx:A.tmps[17]?.getD undef=(.bool false):=he 12 (by kernel_rfl)
    have hy:A.tmps[22]?.getD undef=undef:=he 17 (by kernel_rfl);go_simp
    exact ⟨rfl,Below.refl _ _⟩
   ·have hx:A.tmps[23]?.getD undef=(.bool false):=he 18 (by kernel_rfl)
    go_simp
    exact ⟨rfl,Below.refl _ _⟩
   iterate 6 (have hg:A.tmps[24]?.getD undef = .bool false:=he 19 (by kernel_rfl);exact .inr ⟨mf (d:=24) rfl (by kernel_rfl) hg,rfl⟩)
   ·have hx:A.tmps[24]?.getD undef=(.bool false):=he 19 (by kernel_rfl)
    have hy:A.tmps[30]?.getD undef=undef:=he 25 (by kernel_rfl);go_simp
    exact ⟨rfl,Below.refl _ _⟩
  ·intro xs W hW hV
   have ew:xs 26 = .bool false:=hV 26 (by simp);have lQ:=hid ((HP.out.grown hW).low);simp only [List.length_cons,List.length_nil,Nat.zero_add,Nat.reduceAdd,List.drop_succ_cons,List.drop_zero,gZ,Act.put,List.setIfInBounds_toArray,List.set_cons_zero,List.set_cons_succ,ew]
   clear hV hW ew;go_wp2_with fail
   go_ret;exact ⟨rfl,lQ.out⟩
 cases r3
 ·
  refine oM [5,6,7,8,9,10,11,12,13,14,15,16,17,18,19,20,21,22,23,24,25,26,27,28,29,30,31] [aV (.pointer (some ⟨g1,2,none⟩)),aV (.bool s.all),aV (.pointer (some ⟨g2,2,none⟩)),aV (.bool t.all),aV (.bool true),aV (.bool true),aV (.pointer (some ⟨g1,3,none⟩)),aV (.pointer pa),aV (.pointer (some ⟨g2,3,none⟩)),aV (.pointer pa'),aV (.bool true),aV (.bool true),aV (.bool true),aV (.pointer (some ⟨g1,0,none⟩)),aV (.slice pi s.init.length ci),aV (.pointer (some ⟨g2,0,none⟩)),aV (.slice Jq t.init.length Jr),aV (.bool false),aV (.bool false),aV (.bool false),aV undef,aV undef,aV undef,aV undef,aV undef,aV undef,aV (.bool false)] (by kernel_rfl) (by kernel_rfl) (by kernel_rfl) (by kernel_rfl) (by rfl) (by simp only [List.mem_cons,List.not_mem_nil,or_false,forall_eq_or_imp,forall_eq];refine ⟨?_,?_,?_,?_,?_,?_,?_,?_,?_,?_,?_,?_,?_,?_,?_,?_,?_,?_,?_,?_,?_,?_,?_,?_,?_,?_,?_⟩ <;> first | exact eH _ | exact kT) ?_ ?_
  ·intro i o hi ho A W hW hk he
   simp only [List.length_cons,List.length_nil,Nat.zero_add,Nat.reduceAdd] at hi
   obtain rfl | rfl | rfl | rfl | rfl | rfl | rfl | rfl | rfl | rfl | rfl | rfl | rfl | rfl | rfl | rfl | rfl | rfl | rfl | rfl | rfl | rfl | rfl | rfl | rfl | rfl | rfl:i=0 \/ i=1 \/ i=2 \/ i=3 \/ i=4 \/ i=5 \/ i=6 \/ i=7 \/ i=8 \/ i=9 \/ i=10 \/ i=11 \/ i=12 \/ i=13 \/ i=14 \/ i=15 \/ i=16 \/ i=17 \/ i=18 \/ i=19 \/ i=20 \/ i=21 \/ i=22 \/ i=23 \/ i=24 \/ i=25 \/ i=26:=by omega
   all_goals (injection ho with ho;subst ho)
   all_goals try refine .inl ⟨gz rfl,?_⟩
   ·have hx:A.tmps[2]?.getD undef = .pointer (some ⟨g1,0,none⟩):=hk 2 (by rfl)
    go_simp
    exact ⟨rfl,Below.refl _ _⟩
   ·have hx:A.tmps[5]?.getD undef = .pointer (some ⟨g1,2,none⟩):=he 0 (by kernel_rfl)
    have cc:=(HP.out.grown hW).s1.cell 2;go_simp
    exact ⟨rfl,Below.refl _ _⟩
   ·have hx:A.tmps[3]?.getD undef = .pointer (some ⟨g2,0,none⟩):=hk 3 (by rfl)
    go_simp
    exact ⟨rfl,Below.refl _ _⟩
   ·have hx:A.tmps[7]?.getD undef = .pointer (some ⟨g2,2,none⟩):=he 2 (by kernel_rfl)
    have cc:=(HP.out.grown hW).s2.cell 2;go_simp
    exact ⟨rfl,Below.refl _ _⟩
   ·have hx:A.tmps[6]?.getD undef=(.bool s.all):=he 1 (by kernel_rfl)
    have hy:A.tmps[8]?.getD undef=(.bool t.all):=he 3 (by kernel_rfl);go_simp
    exact ⟨congrArg Value.bool GN.out,Below.refl _ _⟩
   ·have hx:A.tmps[9]?.getD undef=(.bool true):=he 4 (by kernel_rfl)
    go_simp
    exact ⟨rfl,Below.refl _ _⟩
   ·have hg:A.tmps[10]?.getD undef = .bool true:=he 5 (by kernel_rfl)
    refine .inl ⟨aD (d:=10) rfl (by kernel_rfl) hg,?_⟩;have hx:A.tmps[2]?.getD undef = .pointer (some ⟨g1,0,none⟩):=hk 2 (by rfl);go_simp
    exact ⟨rfl,Below.refl _ _⟩
   ·have hg:A.tmps[10]?.getD undef = .bool true:=he 5 (by kernel_rfl)
    refine .inl ⟨aD (d:=10) rfl (by kernel_rfl) hg,?_⟩;have hx:A.tmps[11]?.getD undef = .pointer (some ⟨g1,3,none⟩):=he 6 (by kernel_rfl);have cc:=(HP.out.grown hW).s1.cell 3;go_simp
    exact ⟨rfl,Below.refl _ _⟩
   ·have hg:A.tmps[10]?.getD undef = .bool true:=he 5 (by kernel_rfl)
    refine .inl ⟨aD (d:=10) rfl (by kernel_rfl) hg,?_⟩;have hx:A.tmps[3]?.getD undef = .pointer (some ⟨g2,0,none⟩):=hk 3 (by rfl);go_simp
    exact ⟨rfl,Below.refl _ _⟩
   ·have hg:A.tmps[10]?.getD undef = .bool true:=he 5 (by kernel_rfl)
    refine .inl ⟨aD (d:=10) rfl (by kernel_rfl) hg,?_⟩;have hx:A.tmps[13]?.getD undef = .pointer (some ⟨g2,3,none⟩):=he 8 (by kernel_rfl);have cc:=(HP.out.grown hW).s2.cell 3;go_simp
    exact ⟨rfl,Below.refl _ _⟩
   ·have hg:A.tmps[10]?.getD undef = .bool true:=he 5 (by kernel_rfl)
    refine .inl ⟨aD (d:=10) rfl (by kernel_rfl) hg,?_⟩;have hx:A.tmps[12]?.getD undef=(.pointer pa):=he 7 (by kernel_rfl);have hy:A.tmps[14]?.getD undef=(.pointer pa'):=he 9 (by kernel_rfl);go_simp
    refine Calls.mono (HA.out W (HP.out.grown hW)) ?_;rintro e' w' ⟨rfl,hb⟩;exact ⟨_,rfl,rfl,hb⟩
   ·have hx:A.tmps[10]?.getD undef=(.bool true):=he 5 (by kernel_rfl)
    have hy:A.tmps[15]?.getD undef=(.bool true):=he 10 (by kernel_rfl);go_simp
    exact ⟨rfl,Below.refl _ _⟩
   ·have hx:A.tmps[16]?.getD undef=(.bool true):=he 11 (by kernel_rfl)
    go_simp
    exact ⟨rfl,Below.refl _ _⟩
   ·have hg:A.tmps[17]?.getD undef = .bool true:=he 12 (by kernel_rfl)
    refine .inl ⟨aD (d:=17) rfl (by kernel_rfl) hg,?_⟩;have hx:A.tmps[2]?.getD undef = .pointer (some ⟨g1,0,none⟩):=hk 2 (by rfl);go_simp
    exact ⟨rfl,Below.refl _ _⟩
   ·have hg:A.tmps[17]?.getD undef = .bool true:=he 12 (by kernel_rfl)
    refine .inl ⟨aD (d:=17) rfl (by kernel_rfl) hg,?_⟩;have hx:A.tmps[18]?.getD undef = .pointer (some ⟨g1,0,none⟩):=he 13 (by kernel_rfl);have cc:=(HP.out.grown hW).s1.cell 0;go_simp
    exact ⟨rfl,Below.refl _ _⟩
   ·have hg:A.tmps[17]?.getD undef = .bool true:=he 12 (by kernel_rfl)
    refine .inl ⟨aD (d:=17) rfl (by kernel_rfl) hg,?_⟩;have hx:A.tmps[3]?.getD undef = .pointer (some ⟨g2,0,none⟩):=hk 3 (by rfl);go_simp
    exact ⟨rfl,Below.refl _ _⟩
   ·have hg:A.tmps[17]?.getD undef = .bool true:=he 12 (by kernel_rfl)
    refine .inl ⟨aD (d:=17) rfl (by kernel_rfl) hg,?_⟩;have hx:A.tmps[20]?.getD undef = .pointer (some ⟨g2,0,none⟩):=he 15 (by kernel_rfl);have cc:=(HP.out.grown hW).s2.cell 0;go_simp
    exact ⟨rfl,Below.refl _ _⟩
   ·have hg:A.tmps[17]?.getD undef = .bool true:=he 12 (by kernel_rfl)
    refine .inl ⟨aD (d:=17) rfl (by kernel_rfl) hg,?_⟩;have hx:A.tmps[19]?.getD undef=(.slice pi s.init.length ci):=he 14 (by kernel_rfl);have hy:A.tmps[21]?.getD undef=(.slice Jq t.init.length Jr):=he 16 (by kernel_rfl);go_simp
    refine Calls.mono (HI.out W (HP.out.grown hW)) ?_;rintro e' w' ⟨rfl,hb⟩;exact ⟨_,rfl,rfl,hb⟩
   ·have hx:A.tmps[17]?.getD undef=(.bool true):=he 12 (by kernel_rfl)
    have hy:A.tmps[22]?.getD undef=(.bool false):=he 17 (by kernel_rfl);go_simp
    exact ⟨rfl,Below.refl _ _⟩
   ·have hx:A.tmps[23]?.getD undef=(.bool false):=he 18 (by kernel_rfl)
    go_simp
    exact ⟨rfl,Below.refl _ _⟩
   iterate 6 (have hg:A.tmps[24]?.getD undef = .bool false:=he 19 (by kernel_rfl);exact .inr ⟨mf (d:=24) rfl (by kernel_rfl) hg,rfl⟩)
   ·have hx:A.tmps[24]?.getD undef=(.bool false):=he 19 (by kernel_rfl)
    have hy:A.tmps[30]?.getD undef=undef:=he 25 (by kernel_rfl);go_simp
    exact ⟨rfl,Below.refl _ _⟩
  ·intro xs W hW hV
   have ew:xs 26 = .bool false:=hV 26 (by simp);have lQ:=hid ((HP.out.grown hW).low);simp only [List.length_cons,List.length_nil,Nat.zero_add,Nat.reduceAdd,List.drop_succ_cons,List.drop_zero,gZ,Act.put,List.setIfInBounds_toArray,List.set_cons_zero,List.set_cons_succ,ew]
   clear hV hW ew;go_wp2_with fail
   go_ret;exact ⟨rfl,lQ.out⟩
 cases r4
 ·
  refine oM [5,6,7,8,9,10,11,12,13,14,15,16,17,18,19,20,21,22,23,24,25,26,27,28,29,30,31] [aV (.pointer (some ⟨g1,2,none⟩)),aV (.bool s.all),aV (.pointer (some ⟨g2,2,none⟩)),aV (.bool t.all),aV (.bool true),aV (.bool true),aV (.pointer (some ⟨g1,3,none⟩)),aV (.pointer pa),aV (.pointer (some ⟨g2,3,none⟩)),aV (.pointer pa'),aV (.bool true),aV (.bool true),aV (.bool true),aV (.pointer (some ⟨g1,0,none⟩)),aV (.slice pi s.init.length ci),aV (.pointer (some ⟨g2,0,none⟩)),aV (.slice Jq t.init.length Jr),aV (.bool true),aV (.bool true),aV (.bool true),aV (.pointer (some ⟨g1,1,none⟩)),aV (.slice pt s.threads.length ct),aV (.pointer (some ⟨g2,1,none⟩)),aV (.slice Fu t.threads.length Fv),zx,aV (.bool false),aV (.bool false)] (by kernel_rfl) (by kernel_rfl) (by kernel_rfl) (by kernel_rfl) (by rfl) (by simp only [List.mem_cons,List.not_mem_nil,or_false,forall_eq_or_imp,forall_eq];refine ⟨?_,?_,?_,?_,?_,?_,?_,?_,?_,?_,?_,?_,?_,?_,?_,?_,?_,?_,?_,?_,?_,?_,?_,?_,?_,?_,?_⟩ <;> first | exact eH _ | exact kT) ?_ ?_
  ·intro i o hi ho A W hW hk he
   simp only [List.length_cons,List.length_nil,Nat.zero_add,Nat.reduceAdd] at hi
   obtain rfl | rfl | rfl | rfl | rfl | rfl | rfl | rfl | rfl | rfl | rfl | rfl | rfl | rfl | rfl | rfl | rfl | rfl | rfl | rfl | rfl | rfl | rfl | rfl | rfl | rfl | rfl:i=0 \/ i=1 \/ i=2 \/ i=3 \/ i=4 \/ i=5 \/ i=6 \/ i=7 \/ i=8 \/ i=9 \/ i=10 \/ i=11 \/ i=12 \/ i=13 \/ i=14 \/ i=15 \/ i=16 \/ i=17 \/ i=18 \/ i=19 \/ i=20 \/ i=21 \/ i=22 \/ i=23 \/ i=24 \/ i=25 \/ i=26:=by omega
   all_goals (injection ho with ho;subst ho)
   all_goals try refine .inl ⟨gz rfl,?_⟩
   ·have hx:A.tmps[2]?.getD undef = .pointer (some ⟨g1,0,none⟩):=hk 2 (by rfl)
    go_simp
    exact ⟨rfl,Below.refl _ _⟩
   ·have hx:A.tmps[5]?.getD undef = .pointer (some ⟨g1,2,none⟩):=he 0 (by kernel_rfl)
    have cc:=(HP.out.grown hW).s1.cell 2;go_simp
    exact ⟨rfl,Below.refl _ _⟩
   ·have hx:A.tmps[3]?.getD undef = .pointer (some ⟨g2,0,none⟩):=hk 3 (by rfl)
    go_simp
    exact ⟨rfl,Below.refl _ _⟩
   ·have hx:A.tmps[7]?.getD undef = .pointer (some ⟨g2,2,none⟩):=he 2 (by kernel_rfl)
    have cc:=(HP.out.grown hW).s2.cell 2;go_simp
    exact ⟨rfl,Below.refl _ _⟩
   ·have hx:A.tmps[6]?.getD undef=(.bool s.all):=he 1 (by kernel_rfl)
    have hy:A.tmps[8]?.getD undef=(.bool t.all):=he 3 (by kernel_rfl);go_simp
    exact ⟨congrArg Value.bool GN.out,Below.refl _ _⟩
   ·have hx:A.tmps[9]?.getD undef=(.bool true):=he 4 (by kernel_rfl)
    go_simp
    exact ⟨rfl,Below.refl _ _⟩
   ·have hg:A.tmps[10]?.getD undef = .bool true:=he 5 (by kernel_rfl)
    refine .inl ⟨aD (d:=10) rfl (by kernel_rfl) hg,?_⟩;have hx:A.tmps[2]?.getD undef = .pointer (some ⟨g1,0,none⟩):=hk 2 (by rfl);go_simp
    exact ⟨rfl,Below.refl _ _⟩
   ·have hg:A.tmps[10]?.getD undef = .bool true:=he 5 (by kernel_rfl)
    refine .inl ⟨aD (d:=10) rfl (by kernel_rfl) hg,?_⟩;have hx:A.tmps[11]?.getD undef = .pointer (some ⟨g1,3,none⟩):=he 6 (by kernel_rfl);have cc:=(HP.out.grown hW).s1.cell 3;go_simp
    exact ⟨rfl,Below.refl _ _⟩
   ·have hg:A.tmps[10]?.getD undef = .bool true:=he 5 (by kernel_rfl)
    refine .inl ⟨aD (d:=10) rfl (by kernel_rfl) hg,?_⟩;have hx:A.tmps[3]?.getD undef = .pointer (some ⟨g2,0,none⟩):=hk 3 (by rfl);go_simp
    exact ⟨rfl,Below.refl _ _⟩
   ·have hg:A.tmps[10]?.getD undef = .bool true:=he 5 (by kernel_rfl)
    refine .inl ⟨aD (d:=10) rfl (by kernel_rfl) hg,?_⟩;have hx:A.tmps[13]?.getD undef = .pointer (some ⟨g2,3,none⟩):=he 8 (by kernel_rfl);have cc:=(HP.out.grown hW).s2.cell 3;go_simp
    exact ⟨rfl,Below.refl _ _⟩
   ·have hg:A.tmps[10]?.getD undef = .bool true:=he 5 (by kernel_rfl)
    refine .inl ⟨aD (d:=10) rfl (by kernel_rfl) hg,?_⟩;have hx:A.tmps[12]?.getD undef=(.pointer pa):=he 7 (by kernel_rfl);have hy:A.tmps[14]?.getD undef=(.pointer pa'):=he 9 (by kernel_rfl);go_simp
    refine Calls.mono (HA.out W (HP.out.grown hW)) ?_;rintro e' w' ⟨rfl,hb⟩;exact ⟨_,rfl,rfl,hb⟩
   ·have hx:A.tmps[10]?.getD undef=(.bool true):=he 5 (by kernel_rfl)
    have hy:A.tmps[15]?.getD undef=(.bool true):=he 10 (by kernel_rfl);go_simp
    exact ⟨rfl,Below.refl _ _⟩
   ·have hx:A.tmps[16]?.getD undef=(.bool true):=he 11 (by kernel_rfl)
    go_simp
    exact ⟨rfl,Below.refl _ _⟩
   ·have hg:A.tmps[17]?.getD undef = .bool true:=he 12 (by kernel_rfl)
    refine .inl ⟨aD (d:=17) rfl (by kernel_rfl) hg,?_⟩;have hx:A.tmps[2]?.getD undef = .pointer (some ⟨g1,0,none⟩):=hk 2 (by rfl);go_simp
    exact ⟨rfl,Below.refl _ _⟩
   ·have hg:A.tmps[17]?.getD undef = .bool true:=he 12 (by kernel_rfl)
    refine .inl ⟨aD (d:=17) rfl (by kernel_rfl) hg,?_⟩;have hx:A.tmps[18]?.getD undef = .pointer (some ⟨g1,0,none⟩):=he 13 (by kernel_rfl);have cc:=(HP.out.grown hW).s1.cell 0;go_simp
    exact ⟨rfl,Below.refl _ _⟩
   ·have hg:A.tmps[17]?.getD undef = .bool true:=he 12 (by kernel_rfl)
    refine .inl ⟨aD (d:=17) rfl (by kernel_rfl) hg,?_⟩;have hx:A.tmps[3]?.getD undef = .pointer (some ⟨g2,0,none⟩):=hk 3 (by rfl);go_simp
    exact ⟨rfl,Below.refl _ _⟩
   ·have hg:A.tmps[17]?.getD undef = .bool true:=he 12 (by kernel_rfl)
    refine .inl ⟨aD (d:=17) rfl (by kernel_rfl) hg,?_⟩;have hx:A.tmps[20]?.getD undef = .pointer (some ⟨g2,0,none⟩):=he 15 (by kernel_rfl);have cc:=(HP.out.grown hW).s2.cell 0;go_simp
    exact ⟨rfl,Below.refl _ _⟩
   ·have hg:A.tmps[17]?.getD undef = .bool true:=he 12 (by kernel_rfl)
    refine .inl ⟨aD (d:=17) rfl (by kernel_rfl) hg,?_⟩;have hx:A.tmps[19]?.getD undef=(.slice pi s.init.length ci):=he 14 (by kernel_rfl);have hy:A.tmps[21]?.getD undef=(.slice Jq t.init.length Jr):=he 16 (by kernel_rfl);go_simp
    refine Calls.mono (HI.out W (HP.out.grown hW)) ?_;rintro e' w' ⟨rfl,hb⟩;exact ⟨_,rfl,rfl,hb⟩
   ·have hx:A.tmps[17]?.getD undef=(.bool true):=he 12 (by kernel_rfl)
    have hy:A.tmps[22]?.getD undef=(.bool true):=he 17 (by kernel_rfl);go_simp
    exact ⟨rfl,Below.refl _ _⟩
   ·have hx:A.tmps[23]?.getD undef=(.bool true):=he 18 (by kernel_rfl)
    go_simp
    exact ⟨rfl,Below.refl _ _⟩
   ·have hg:A.tmps[24]?.getD undef = .bool true:=he 19 (by kernel_rfl)
    refine .inl ⟨aD (d:=24) rfl (by kernel_rfl) hg,?_⟩;have hx:A.tmps[2]?.getD undef = .pointer (some ⟨g1,0,none⟩):=hk 2 (by rfl);go_simp
    exact ⟨rfl,Below.refl _ _⟩
   ·have hg:A.tmps[24]?.getD undef = .bool true:=he 19 (by kernel_rfl)
    refine .inl ⟨aD (d:=24) rfl (by kernel_rfl) hg,?_⟩;have hx:A.tmps[25]?.getD undef = .pointer (some ⟨g1,1,none⟩):=he 20 (by kernel_rfl);have cc:=(HP.out.grown hW).s1.cell 1;go_simp
    exact ⟨rfl,Below.refl _ _⟩
   ·have hg:A.tmps[24]?.getD undef = .bool true:=he 19 (by kernel_rfl)
    refine .inl ⟨aD (d:=24) rfl (by kernel_rfl) hg,?_⟩;have hx:A.tmps[3]?.getD undef = .pointer (some ⟨g2,0,none⟩):=hk 3 (by rfl);go_simp
    exact ⟨rfl,Below.refl _ _⟩
   ·have hg:A.tmps[24]?.getD undef = .bool true:=he 19 (by kernel_rfl)
    refine .inl ⟨aD (d:=24) rfl (by kernel_rfl) hg,?_⟩;have hx:A.tmps[27]?.getD undef = .pointer (some ⟨g2,1,none⟩):=he 22 (by kernel_rfl);have cc:=(HP.out.grown hW).s2.cell 1;go_simp
    exact ⟨rfl,Below.refl _ _⟩
   ·have hg:A.tmps[24]?.getD undef = .bool true:=he 19 (by kernel_rfl)
    refine .inl ⟨aD (d:=24) rfl (by kernel_rfl) hg,?_⟩;go_simp
    refine Calls.mono (rE W) ?_;rintro e' w' ⟨sB,mh,mB,rfl,hE,hb⟩;exact ⟨_,rfl,⟨sB,mh,mB,rfl,hE⟩,hb⟩
   ·have hg:A.tmps[24]?.getD undef = .bool true:=he 19 (by kernel_rfl)
    refine .inl ⟨aD (d:=24) rfl (by kernel_rfl) hg,?_⟩;have hx:A.tmps[26]?.getD undef=(.slice pt s.threads.length ct):=he 21 (by kernel_rfl);have hy:A.tmps[28]?.getD undef=(.slice Fu t.threads.length Fv):=he 23 (by kernel_rfl);obtain ⟨sB,mh,mB,hz,hE⟩:zx (A.tmps[29]?.getD undef) W:=he 24 (by kernel_rfl);go_simp
    refine Calls.mono (HB.out sB mh mB W (HP.out.grown hW) hE) ?_;rintro e' w' ⟨rfl,hb⟩;exact ⟨_,rfl,rfl,hb⟩
   ·have hx:A.tmps[24]?.getD undef=(.bool true):=he 19 (by kernel_rfl)
    have hy:A.tmps[30]?.getD undef=(.bool false):=he 25 (by kernel_rfl);go_simp
    exact ⟨rfl,Below.refl _ _⟩
  ·intro xs W hW hV
   have ew:xs 26 = .bool false:=hV 26 (by simp);have lQ:=hid ((HP.out.grown hW).low);simp only [List.length_cons,List.length_nil,Nat.zero_add,Nat.reduceAdd,List.drop_succ_cons,List.drop_zero,gZ,Act.put,List.setIfInBounds_toArray,List.set_cons_zero,List.set_cons_succ,ew]
   clear hV hW ew;go_wp2_with fail
   go_ret;exact ⟨rfl,lQ.out⟩
 ·
  refine oM [5,6,7,8,9,10,11,12,13,14,15,16,17,18,19,20,21,22,23,24,25,26,27,28,29,30,31] [aV (.pointer (some ⟨g1,2,none⟩)),aV (.bool s.all),aV (.pointer (some ⟨g2,2,none⟩)),aV (.bool t.all),aV (.bool true),aV (.bool true),aV (.pointer (some ⟨g1,3,none⟩)),aV (.pointer pa),aV (.pointer (some ⟨g2,3,none⟩)),aV (.pointer pa'),aV (.bool true),aV (.bool true),aV (.bool true),aV (.pointer (some ⟨g1,0,none⟩)),aV (.slice pi s.init.length ci),aV (.pointer (some ⟨g2,0,none⟩)),aV (.slice Jq t.init.length Jr),aV (.bool true),aV (.bool true),aV (.bool true),aV (.pointer (some ⟨g1,1,none⟩)),aV (.slice pt s.threads.length ct),aV (.pointer (some ⟨g2,1,none⟩)),aV (.slice Fu t.threads.length Fv),zx,aV (.bool true),aV (.bool true)] (by kernel_rfl) (by kernel_rfl) (by kernel_rfl) (by kernel_rfl) (by rfl) (by simp only [List.mem_cons,List.not_mem_nil,or_false,forall_eq_or_imp,forall_eq];refine ⟨?_,?_,?_,?_,?_,?_,?_,?_,?_,?_,?_,?_,?_,?_,?_,?_,?_,?_,?_,?_,?_,?_,?_,?_,?_,?_,?_⟩ <;> first | exact eH _ | exact kT) ?_ ?_
  ·intro i o hi ho A W hW hk he
   simp only [List.length_cons,List.length_nil,Nat.zero_add,Nat.reduceAdd] at hi
   obtain rfl | rfl | rfl | rfl | rfl | rfl | rfl | rfl | rfl | rfl | rfl | rfl | rfl | rfl | rfl | rfl | rfl | rfl | rfl | rfl | rfl | rfl | rfl | rfl | rfl | rfl | rfl:i=0 \/ i=1 \/ i=2 \/ i=3 \/ i=4 \/ i=5 \/ i=6 \/ i=7 \/ i=8 \/ i=9 \/ i=10 \/ i=11 \/ i=12 \/ i=13 \/ i=14 \/ i=15 \/ i=16 \/ i=17 \/ i=18 \/ i=19 \/ i=20 \/ i=21 \/ i=22 \/ i=23 \/ i=24 \/ i=25 \/ i=26:=by omega
   all_goals (injection ho with ho;subst ho)
   all_goals try refine .inl ⟨gz rfl,?_⟩
   ·have hx:A.tmps[2]?.getD undef = .pointer (some ⟨g1,0,none⟩):=hk 2 (by rfl)
    go_simp
    exact ⟨rfl,Below.refl _ _⟩
   ·have hx:A.tmps[5]?.getD undef = .pointer (some ⟨g1,2,none⟩):=he 0 (by kernel_rfl)
    have cc:=(HP.out.grown hW).s1.cell 2;go_simp
    exact ⟨rfl,Below.refl _ _⟩
   ·have hx:A.tmps[3]?.getD undef = .pointer (some ⟨g2,0,none⟩):=hk 3 (by rfl)
    go_simp
    exact ⟨rfl,Below.refl _ _⟩
   ·have hx:A.tmps[7]?.getD undef = .pointer (some ⟨g2,2,none⟩):=he 2 (by kernel_rfl)
    have cc:=(HP.out.grown hW).s2.cell 2;go_simp
    exact ⟨rfl,Below.refl _ _⟩
   ·have hx:A.tmps[6]?.getD undef=(.bool s.all):=he 1 (by kernel_rfl)
    have hy:A.tmps[8]?.getD undef=(.bool t.all):=he 3 (by kernel_rfl);go_simp
    exact ⟨congrArg Value.bool GN.out,Below.refl _ _⟩
   ·have hx:A.tmps[9]?.getD undef=(.bool true):=he 4 (by kernel_rfl)
    go_simp
    exact ⟨rfl,Below.refl _ _⟩
   ·have hg:A.tmps[10]?.getD undef = .bool true:=he 5 (by kernel_rfl)
    refine .inl ⟨aD (d:=10) rfl (by kernel_rfl) hg,?_⟩;have hx:A.tmps[2]?.getD undef = .pointer (some ⟨g1,0,none⟩):=hk 2 (by rfl);go_simp
    exact ⟨rfl,Below.refl _ _⟩
   ·have hg:A.tmps[10]?.getD undef = .bool true:=he 5 (by kernel_rfl)
    refine .inl ⟨aD (d:=10) rfl (by kernel_rfl) hg,?_⟩;have hx:A.tmps[11]?.getD undef = .pointer (some ⟨g1,3,none⟩):=he 6 (by kernel_rfl);have cc:=(HP.out.grown hW).s1.cell 3;go_simp
    exact ⟨rfl,Below.refl _ _⟩
   ·have hg:A.tmps[10]?.getD undef = .bool true:=he 5 (by kernel_rfl)
    refine .inl ⟨aD (d:=10) rfl (by kernel_rfl) hg,?_⟩;have hx:A.tmps[3]?.getD undef = .pointer (some ⟨g2,0,none⟩):=hk 3 (by rfl);go_simp
    exact ⟨rfl,Below.refl _ _⟩
   ·have hg:A.tmps[10]?.getD undef = .bool true:=he 5 (by kernel_rfl)
    refine .inl ⟨aD (d:=10) rfl (by kernel_rfl) hg,?_⟩;have hx:A.tmps[13]?.getD undef = .pointer (some ⟨g2,3,none⟩):=he 8 (by kernel_rfl);have cc:=(HP.out.grown hW).s2.cell 3;go_simp
    exact ⟨rfl,Below.refl _ _⟩
   ·have hg:A.tmps[10]?.getD undef = .bool true:=he 5 (by kernel_rfl)
    refine .inl ⟨aD (d:=10) rfl (by kernel_rfl) hg,?_⟩;have hx:A.tmps[12]?.getD undef=(.pointer pa):=he 7 (by kernel_rfl);have hy:A.tmps[14]?.getD undef=(.pointer pa'):=he 9 (by kernel_rfl);go_simp
    refine Calls.mono (HA.out W (HP.out.grown hW)) ?_;rintro e' w' ⟨rfl,hb⟩;exact ⟨_,rfl,rfl,hb⟩
   ·have hx:A.tmps[10]?.getD undef=(.bool true):=he 5 (by kernel_rfl)
    have hy:A.tmps[15]?.getD undef=(.bool true):=he 10 (by kernel_rfl);go_simp
    exact ⟨rfl,Below.refl _ _⟩
   ·have hx:A.tmps[16]?.getD undef=(.bool true):=he 11 (by kernel_rfl)
    go_simp
    exact ⟨rfl,Below.refl _ _⟩
   ·have hg:A.tmps[17]?.getD undef = .bool true:=he 12 (by kernel_rfl)
    refine .inl ⟨aD (d:=17) rfl (by kernel_rfl) hg,?_⟩;have hx:A.tmps[2]?.getD undef = .pointer (some ⟨g1,0,none⟩):=hk 2 (by rfl);go_simp
    exact ⟨rfl,Below.refl _ _⟩
   ·have hg:A.tmps[17]?.getD undef = .bool true:=he 12 (by kernel_rfl)
    refine .inl ⟨aD (d:=17) rfl (by kernel_rfl) hg,?_⟩;have hx:A.tmps[18]?.getD undef = .pointer (some ⟨g1,0,none⟩):=he 13 (by kernel_rfl);have cc:=(HP.out.grown hW).s1.cell 0;go_simp
    exact ⟨rfl,Below.refl _ _⟩
   ·have hg:A.tmps[17]?.getD undef = .bool true:=he 12 (by kernel_rfl)
    refine .inl ⟨aD (d:=17) rfl (by kernel_rfl) hg,?_⟩;have hx:A.tmps[3]?.getD undef = .pointer (some ⟨g2,0,none⟩):=hk 3 (by rfl);go_simp
    exact ⟨rfl,Below.refl _ _⟩
   ·have hg:A.tmps[17]?.getD undef = .bool true:=he 12 (by kernel_rfl)
    refine .inl ⟨aD (d:=17) rfl (by kernel_rfl) hg,?_⟩;have hx:A.tmps[20]?.getD undef = .pointer (some ⟨g2,0,none⟩):=he 15 (by kernel_rfl);have cc:=(HP.out.grown hW).s2.cell 0;go_simp
    exact ⟨rfl,Below.refl _ _⟩
   ·have hg:A.tmps[17]?.getD undef = .bool true:=he 12 (by kernel_rfl)
    refine .inl ⟨aD (d:=17) rfl (by kernel_rfl) hg,?_⟩;have hx:A.tmps[19]?.getD undef=(.slice pi s.init.length ci):=he 14 (by kernel_rfl);have hy:A.tmps[21]?.getD undef=(.slice Jq t.init.length Jr):=he 16 (by kernel_rfl);go_simp
    refine Calls.mono (HI.out W (HP.out.grown hW)) ?_;rintro e' w' ⟨rfl,hb⟩;exact ⟨_,rfl,rfl,hb⟩
   ·have hx:A.tmps[17]?.getD undef=(.bool true):=he 12 (by kernel_rfl)
    have hy:A.tmps[22]?.getD undef=(.bool true):=he 17 (by kernel_rfl);go_simp
    exact ⟨rfl,Below.refl _ _⟩
   ·have hx:A.tmps[23]?.getD undef=(.bool true):=he 18 (by kernel_rfl)
    go_simp
    exact ⟨rfl,Below.refl _ _⟩
   ·have hg:A.tmps[24]?.getD undef = .bool true:=he 19 (by kernel_rfl)
    refine .inl ⟨aD (d:=24) rfl (by kernel_rfl) hg,?_⟩;have hx:A.tmps[2]?.getD undef = .pointer (some ⟨g1,0,none⟩):=hk 2 (by rfl);go_simp
    exact ⟨rfl,Below.refl _ _⟩
   ·have hg:A.tmps[24]?.getD undef = .bool true:=he 19 (by kernel_rfl)
    refine .inl ⟨aD (d:=24) rfl (by kernel_rfl) hg,?_⟩;have hx:A.tmps[25]?.getD undef = .pointer (some ⟨g1,1,none⟩):=he 20 (by kernel_rfl);have cc:=(HP.out.grown hW).s1.cell 1;go_simp
    exact ⟨rfl,Below.refl _ _⟩
   ·have hg:A.tmps[24]?.getD undef = .bool true:=he 19 (by kernel_rfl)
    refine .inl ⟨aD (d:=24) rfl (by kernel_rfl) hg,?_⟩;have hx:A.tmps[3]?.getD undef = .pointer (some ⟨g2,0,none⟩):=hk 3 (by rfl);go_simp
    exact ⟨rfl,Below.refl _ _⟩
   ·have hg:A.tmps[24]?.getD undef = .bool true:=he 19 (by kernel_rfl)
    refine .inl ⟨aD (d:=24) rfl (by kernel_rfl) hg,?_⟩;have hx:A.tmps[27]?.getD undef = .pointer (some ⟨g2,1,none⟩):=he 22 (by kernel_rfl);have cc:=(HP.out.grown hW).s2.cell 1;go_simp
    exact ⟨rfl,Below.refl _ _⟩
   ·have hg:A.tmps[24]?.getD undef = .bool true:=he 19 (by kernel_rfl)
    refine .inl ⟨aD (d:=24) rfl (by kernel_rfl) hg,?_⟩;go_simp
    refine Calls.mono (rE W) ?_;rintro e' w' ⟨sB,mh,mB,rfl,hE,hb⟩;exact ⟨_,rfl,⟨sB,mh,mB,rfl,hE⟩,hb⟩
   ·have hg:A.tmps[24]?.getD undef = .bool true:=he 19 (by kernel_rfl)
    refine .inl ⟨aD (d:=24) rfl (by kernel_rfl) hg,?_⟩;have hx:A.tmps[26]?.getD undef=(.slice pt s.threads.length ct):=he 21 (by kernel_rfl);have hy:A.tmps[28]?.getD undef=(.slice Fu t.threads.length Fv):=he 23 (by kernel_rfl);obtain ⟨sB,mh,mB,hz,hE⟩:zx (A.tmps[29]?.getD undef) W:=he 24 (by kernel_rfl);go_simp
    refine Calls.mono (HB.out sB mh mB W (HP.out.grown hW) hE) ?_;rintro e' w' ⟨rfl,hb⟩;exact ⟨_,rfl,rfl,hb⟩
   ·have hx:A.tmps[24]?.getD undef=(.bool true):=he 19 (by kernel_rfl)
    have hy:A.tmps[30]?.getD undef=(.bool true):=he 25 (by kernel_rfl);go_simp
    exact ⟨rfl,Below.refl _ _⟩
  ·intro xs W hW hV
   have ew:xs 26 = .bool true:=hV 26 (by simp);have lQ:=hid ((HP.out.grown hW).low);simp only [List.length_cons,List.length_nil,Nat.zero_add,Nat.reduceAdd,List.drop_succ_cons,List.drop_zero,gZ,Act.put,List.setIfInBounds_toArray,List.set_cons_zero,List.set_cons_succ,ew]
   clear hV hW ew;go_wp2_with fail
   go_ret;exact ⟨rfl,lQ.out⟩
end Go.Proofs.YtaanhmndeobgbaaGreatDoor.Prog
