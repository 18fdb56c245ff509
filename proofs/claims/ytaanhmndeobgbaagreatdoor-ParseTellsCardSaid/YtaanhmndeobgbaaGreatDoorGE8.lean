/- Part 49 of the proof: what is used of the texts PtlZ. -/
import Derived.Test.YtaanhmndeobgbaaGreatDoorGE6
import Derived.Test.YtaanhmndeobgbaaGreatDoorGE4
import Derived.Test.YtaanhmndeobgbaaGreatDoorGE7
set_option maxRecDepth 100000
set_option maxHeartbeats 2000000
namespace Go.Proofs.YtaanhmndeobgbaaGreatDoor.fT
open Go.RowKit Mem Go.Proofs.YtaanhmndeobgbaaGreatDoor.Expr Prog ae Go.Lib
theorem yD (w:World) (a b:Array Value) (t u:TypeId):Below w.heap.size w ((w.alloc (.cells a t)).alloc (.cells b u))/\Sits ((w.alloc (.cells a t)).alloc (.cells b u)) w.heap.size t a/\Sits ((w.alloc (.cells a t)).alloc (.cells b u)) (w.heap.size+1) u b :=
 ⟨((Below.refl _ _).alloc (Nat.le_refl _) _).alloc (by simp) _,(Sits.new _ _ _).alloc _,Sits.made (by simp) _ _⟩
def YN (T:Ts) (v:Value) (W:World):Prop:=∃ vi vt va,v=eU vi vt T.all va/\nO W T vi vt va
theorem Pn (T:Ts):yc (YN T):=fun _ _ _ ⟨vi,vt,va,e,h⟩ hb=>⟨vi,vt,va,e,h.below hb⟩
theorem RQ {T:Ts} (h:Read T) {vi vt va:Value} {W:World} (hv:QF W (zH T) vi vt va):Calls Tryz.prog 8 #[.agg (yw vi vt T.all va)] W fun e W'=>∃ v,e = .returned v/\YN T v W' /\ Below W.heap.size W W' :=
 (Rs (zH T) (Xv h) (UZ h) vi vt va W hv).mono fun _ _ ⟨_,_,_,he,hu,hb⟩=>⟨_,he,⟨_,_,_,rfl,by have:=hu.v;rwa [QN h.prints.proper] at this⟩,hb⟩
theorem LF (s:ByteArray) (w:World) (hs:s.size<=9223372036854775807) (hX:Prog.All w) :
  Calls Tryz.prog 3 #[.string s] w fun e w'=>Made (.returned (.bool true)) w e w':=by
 have HWK:=hid (fun W (h:Below w.heap.size w W)=>LD W (hX.below h));have HPS:=hid (xh s w hs hX);have XL:=hid (fun W=>IE s W hs);have HB0:=hid (Below.refl w.heap.size w);clear hX hs;by_cases h45:(4500:Int)<(s.size:Int)
 ·clear HPS XL
  go_enter Tryz.func3,Tryz.ntmps3;go_wp2_with fail
  refine (HWK.out _ HB0.out).mono ?_;rintro e w' ⟨rfl,hb⟩;have HE:=hid (HB0.out.trans (hb.mono HB0.out.size));clear hb;go_wp2_with fail
  go_ret;exact ⟨rfl,HE.out⟩
 go_enter Tryz.func3,Tryz.ntmps3;go_wp2_with fail
 clear h45;refine HPS.out.mono ?_;intro e w1 hm;clear HPS;cases hr:fG s.data.toList with
 | err l c er =>
  rw [hr] at hm;obtain ⟨hb,he⟩:=hm;have he:e = .returned (.tuple #[.agg #[.slice none 0 0,.slice none 0 0,.bool false,.pointer none],.agg #[.int .i64 l,.int .i64 c],.int .i64 er]):=he;subst he;have HD:=hid (fun W=>show Calls Tryz.prog 6 #[.string s] W (O9 (.err l c er) W) by have:=XL.out W;rwa [hr] at this);obtain ⟨hl,hx,hp⟩:=yD w1 #[.slice none 0 0,.slice none 0 0,.bool false,.pointer none] #[.int .i64 l,.int .i64 c] 27 29;have HX:=hid hx;have HP:=hid hp;have HB2:=hid (hb.trans (hl.mono hb.size));clear hb hl hx hp hr XL HB0;go_wp2_with fail
  generalize (w1.alloc (.cells #[.slice none 0 0,.slice none 0 0,.bool false,.pointer none] 27)).alloc (.cells #[.int .i64 l,.int .i64 c] 29)=w2 at HX HP HB2 ⊢;generalize w1.heap.size=g1 at HX HP ⊢;refine (HD.out w2).mono ?_;rintro e w3 ⟨hb,ne,rfl⟩;have hne:((er:Int) != 0)=true:=by simpa using ne
  clear ne;obtain ⟨hl,_,hq⟩:=yD w3 #[.slice none 0 0,.slice none 0 0,.bool false,.slice none 0 0] #[.int .i64 l,.int .i64 c] 37 29;have hb2:=hb.trans (hl.mono hb.size);have sZ:=hid (HB2.out.trans (hb2.mono HB2.out.size));have hx:=HX.out.below hb2 HX.out.lt;have hp:=HP.out.below hb2 HP.out.lt;have a0:=hx.cell 0;have a1:=hx.cell 1;have a2:=hx.cell 2;have a3:=hx.cell 3;have p0:=hp.cell 0;have p1:=hp.cell 1;have q0:=hq.cell 0;have q1:=hq.cell 1;have la:=hx.lt;have lp:=hp.lt;have lq:=hq.lt;clear hb hl hq hb2 hx hp HX HP HB2 HD;go_wp2_with fail
  clear a0 a1 a2 a3 p0 p1 q0 q1 la lp lq;refine (HWK.out _ sZ.out).mono ?_;rintro e w5 ⟨rfl,hb⟩;have HE:=hid (sZ.out.trans (hb.mono sZ.out.size));clear hb;go_wp2_with fail
  go_ret;exact ⟨rfl,HE.out⟩
 | ok T =>
  have HR:=hid (JL hr);have HD:=hid (fun W=>show Calls Tryz.prog 6 #[.string s] W (O9 (.ok T) W) by have:=XL.out W;rwa [hr] at this);rw [hr] at hm;obtain ⟨hb,vi,vt,pa,he,hv⟩:=hm;obtain ⟨pi,ci,rfl⟩:=hv.init.len;obtain ⟨pt,ct,rfl⟩:=hv.threads.len;have he:e = .returned (.tuple #[.agg #[.slice pi T.init.length ci,.slice pt T.threads.length ct,.bool T.all,.pointer pa],.agg #[.int .i64 0,.int .i64 0],.int .i64 0]):=he;subst he;obtain ⟨hl,hx,hp⟩:=yD w1 #[.slice pi T.init.length ci,.slice pt T.threads.length ct,.bool T.all,.pointer pa] #[.int .i64 0,.int .i64 0] 27 29;have HX:=hid hx;have HP:=hid hp;have HV:=hid (hv.below hl);have HB2:=hid (hb.trans (hl.mono hb.size));clear hb hl hx hp hv hr XL HB0;go_wp2_with fail
  generalize (w1.alloc (.cells #[.slice pi T.init.length ci,.slice pt T.threads.length ct,.bool T.all,.pointer pa] 27)).alloc (.cells #[.int .i64 0,.int .i64 0] 29)=w2 at HX HP HV HB2 ⊢;generalize w1.heap.size=g1 at HX HP ⊢;refine (HD.out w2).mono ?_;rintro e w3 ⟨hb,qG,oz,xQ,he,hv⟩;obtain ⟨Jq,Jr,rfl⟩:=hv.init.len;obtain ⟨Fu,Fv,rfl,_⟩:=hv.threads.len;obtain ⟨pa',XM,rfl,_⟩:=hv.ask.len;generalize (zH T).init.length=n1 at he hv;generalize (zH T).threads.length=n2 at he hv;generalize (zH T).ask.length=n3 at he hv;have he:e = .returned (.tuple #[.agg #[.slice Jq n1 Jr,.slice Fu n2 Fv,.bool T.all,.slice pa' n3 XM],.agg #[.int .i64 0,.int .i64 0],.int .i64 0]):=he;subst he;obtain ⟨hl,hy,hq⟩:=yD w3 #[.slice Jq n1 Jr,.slice Fu n2 Fv,.bool T.all,.slice pa' n3 XM] #[.int .i64 0,.int .i64 0] 37 29;have hb2:=hb.trans (hl.mono hb.size);have sZ:=hid (HB2.out.trans (hb2.mono HB2.out.size));have HX4:=hid (HX.out.below hb2 HX.out.lt);have HV4:=hid (HV.out.below hb2);have UT:=hid hy;have Py:=hid (hv.below hl);have hp:=HP.out.below hb2 HP.out.lt;have p0:=hp.cell 0;have p1:=hp.cell 1;have q0:=hq.cell 0;have q1:=hq.cell 1;have lp:=hp.lt;have lq:=hq.lt;clear hb hl hq hb2 hp hy hv HX HP HV HB2 HD;go_wp2_with fail
  clear p0 p1 q0 q1 lp lq;generalize (w3.alloc (.cells #[.slice Jq n1 Jr,.slice Fu n2 Fv,.bool T.all,.slice pa' n3 XM] 37)).alloc (.cells #[.int .i64 0,.int .i64 0] 29)=w4 at HX4 HV4 UT Py sZ ⊢;generalize w3.heap.size=g3 at UT ⊢;refine oM [56,57,58] [aV (.agg #[.slice pi T.init.length ci,.slice pt T.threads.length ct,.bool T.all,.pointer pa]),aV (.agg #[.slice Jq n1 Jr,.slice Fu n2 Fv,.bool T.all,.slice pa' n3 XM]),YN T] (by kernel_rfl) (by kernel_rfl) (by kernel_rfl) (by kernel_rfl) (by rfl)
   (by simp only [List.mem_cons,List.not_mem_nil,or_false,forall_eq_or_imp,forall_eq];exact ⟨eH _,eH _,Pn _⟩) ?_ ?_
  ·intro i o hi ho A W hW hk he
   simp only [List.length_cons,List.length_nil,Nat.zero_add,Nat.reduceAdd] at hi
   obtain rfl | rfl | rfl:i=0 \/ i=1 \/ i=2:=by omega
   ·injection ho with ho;subst ho
    refine .inl ⟨gz rfl,?_⟩;have h3:A.tmps[3]?.getD undef = .pointer (some ⟨g1,0,none⟩):=hk 3 (by rfl);have hx:=HX4.out.below hW HX4.out.lt;have c0:=hx.cell 0;have c1:=hx.cell 1;have c2:=hx.cell 2;have c3:=hx.cell 3;go_simp
    exact ⟨rfl,Below.refl _ _⟩
   ·injection ho with ho;subst ho
    refine .inl ⟨gz rfl,?_⟩;have h6:A.tmps[6]?.getD undef = .pointer (some ⟨g3,0,none⟩):=hk 6 (by rfl);have hx:=UT.out.below hW UT.out.lt;have c0:=hx.cell 0;have c1:=hx.cell 1;have c2:=hx.cell 2;have c3:=hx.cell 3;go_simp
    exact ⟨rfl,Below.refl _ _⟩
   ·injection ho with ho;subst ho
    refine .inl ⟨gz rfl,?_⟩;have h57:A.tmps[57]?.getD undef = .agg #[.slice Jq n1 Jr,.slice Fu n2 Fv,.bool T.all,.slice pa' n3 XM]:=he 1 (by kernel_rfl);go_simp
    exact RQ HR.out (Py.out.below hW)
  ·intro xs W hW hV
   have e0:xs 0 = .agg #[.slice pi T.init.length ci,.slice pt T.threads.length ct,.bool T.all,.pointer pa]:=hV 0 (by simp);obtain ⟨vi,vt,va,e2,hu⟩:YN T (xs 2) W:=hV 2 (by simp);obtain ⟨pi5,ci5,rfl⟩:=hu.init.len;obtain ⟨pt5,ct5,rfl⟩:=hu.threads.len;obtain ⟨pa5,rfl,_⟩:=hu.ask.ptr;have e2:xs 2 = .agg #[.slice pi5 T.init.length ci5,.slice pt5 T.threads.length ct5,.bool T.all,.pointer pa5]:=e2;simp only [List.length_cons,List.length_nil,Nat.zero_add,Nat.reduceAdd,List.drop_succ_cons,List.drop_zero,ae.gZ,Act.put,List.setIfInBounds_toArray,List.set_cons_zero,List.set_cons_succ,e0,e2]
   have HV5:=hid (HV4.out.below hW);have HU5:=hid hu;have Gc:=hid (sZ.out.trans (hW.mono sZ.out.size));clear hV e0 e2 hW hu;go_wp2_with fail
   refine (KF T T HR.out.good.1 _ _ _ _ _ _ W HV5.out HU5.out).mono ?_;rintro e w6 ⟨he,hb⟩;rw [decide_eq_true rfl] at he;subst he;have Wn:=hid (Gc.out.trans (hb.mono Gc.out.size));clear hb;go_wp2_with fail
   refine (HWK.out _ Wn.out).mono ?_;rintro e w7 ⟨rfl,hb⟩;have HE:=hid (Wn.out.trans (hb.mono Wn.out.size));clear hb;go_wp2_with fail
   go_ret;exact ⟨rfl,HE.out⟩
end Go.Proofs.YtaanhmndeobgbaaGreatDoor.fT
