/- Part 42 of the proof: what is used of the texts PrsW. -/
import Derived.Test.YtaanhmndeobgbaaGreatDoorGE0
set_option maxRecDepth 100000
set_option maxHeartbeats 1000000
namespace Go.Proofs.YtaanhmndeobgbaaGreatDoor.fT
open Go.RowKit Mem Go.Proofs.YtaanhmndeobgbaaGreatDoor.Expr Prog
open Lex (Tok jA cO iO)
def S9:Value:=.agg #[.int .i64 0,.int .i64 0,.int .i64 0]
theorem UL (w:World):(Instr.typeAssert Value.nilIface 20 48 true).run Tryz.prog w = .ok (.tuple #[S9,.bool false]) w:=by kernel_rfl
theorem OU (l c e:Value) (w:World):(Instr.typeAssert (.iface 48 (.agg #[l,c,e])) 20 48 true).run Tryz.prog w = .ok (.tuple #[.agg #[l,c,e],.bool true]) w:=by kernel_rfl
theorem Iq (g0 g1 g2:Nat) (w:World) :
  CallsD Tryz.prog 11 #[.pointer (some ⟨g0,0,none⟩),.pointer (some ⟨g1,0,none⟩),.pointer (some ⟨g2,0,none⟩)] .returning w fun e u' w'=>e = .returned (.tuple #[])/\u' = .returning/\Below w.heap.size w w':=by
 have Gd:=UL;unfold S9 at Gd;refine callsD_of_wpS Tryz.func11 rfl fun c₀ cs hu=>?_
 apply wpS_seq;apply wpS_region;simp [wpOpsS,go_sem,recoverD,hu,Tryz.ntmps11,Exit.thenS,Gd]
 apply wpS_seq;apply wpS_region;simp [wpOpsS,go_sem,Exit.thenS]
 refine wpS_cond (t:=false) (by simp [Act.eval,Array.replicate]) ?_;simp only [Bool.false_eq_true,if_false]
 refine wpS_of_wp (wp_skip ?_);cases c₀
 simp_all [bodyPostS,results,Tryz.results11]
 exact (Below.refl _ _).alloc (Nat.le_refl _) _
structure dR (g0 g1 g2 gF:Nat) (l c e:Int) (w0:World) (d:Nat->Bool) (xs:Nat->Value) (W:World):Prop where
 a0:d 0=true->xs 0 = .agg bV
 a1:d 1=true->xs 1 = .pointer (some ⟨gF,0,none⟩)
 a2:d 2=true->xs 2 = .agg #[.int .i64 l,.int .i64 c]
 a3:d 3=true->xs 3 = .pointer (some ⟨gF,2,none⟩)
 a4:d 4=true->xs 4 = .int .i64 e
 f:Sits W gF 48 #[.int .i64 l,.int .i64 c,.int .i64 e]
 b0:∃ cs,Sits W g0 27 cs/\cs.size=4/\(d 5=true->cs=bV)
 b1:∃ cs,Sits W g1 29 cs/\cs.size=2/\(d 6=true->cs=#[.int .i64 l,.int .i64 c])
 b2:∃ v,Sits W g2 30 #[v]/\(d 7=true->v = .int .i64 e)
 k:aa (fun x=>x=g0 \/ x=g1 \/ x=g2) w0 W
 ne:g0≠g1/\g0≠g2/\g1≠g2/\gF≠g0/\gF≠g1/\gF≠g2
section
variable {g0 g1 g2 gF : Nat} {l c e : Int} {w0 W : World} {d : Nat → Bool} {xs : Nat → Value}
theorem dR.r0 (h:dR g0 g1 g2 gF l c e w0 d xs W):dR g0 g1 g2 gF l c e w0 (ae.aQ d 0) (ae.bz xs 0 (.agg bV)) W :=
 ⟨fun _=>rfl,by simpa [ae.aQ,ae.bz] using h.a1,by simpa [ae.aQ,ae.bz] using h.a2,by simpa [ae.aQ,ae.bz] using h.a3,by simpa [ae.aQ,ae.bz] using h.a4,h.f,by simpa [ae.aQ] using h.b0,by simpa [ae.aQ] using h.b1,by simpa [ae.aQ] using h.b2,h.k,h.ne⟩
theorem dR.r1 (h:dR g0 g1 g2 gF l c e w0 d xs W):dR g0 g1 g2 gF l c e w0 (ae.aQ d 1) (ae.bz xs 1 (.pointer (some ⟨gF,0,none⟩))) W :=
 ⟨by simpa [ae.aQ,ae.bz] using h.a0,fun _=>rfl,by simpa [ae.aQ,ae.bz] using h.a2,by simpa [ae.aQ,ae.bz] using h.a3,by simpa [ae.aQ,ae.bz] using h.a4,h.f,by simpa [ae.aQ] using h.b0,by simpa [ae.aQ] using h.b1,by simpa [ae.aQ] using h.b2,h.k,h.ne⟩
theorem dR.r2 (h:dR g0 g1 g2 gF l c e w0 d xs W):dR g0 g1 g2 gF l c e w0 (ae.aQ d 2) (ae.bz xs 2 (.agg #[.int .i64 l,.int .i64 c])) W :=
 ⟨by simpa [ae.aQ,ae.bz] using h.a0,by simpa [ae.aQ,ae.bz] using h.a1,fun _=>rfl,by simpa [ae.aQ,ae.bz] using h.a3,by simpa [ae.aQ,ae.bz] using h.a4,h.f,by simpa [ae.aQ] using h.b0,by simpa [ae.aQ] using h.b1,by simpa [ae.aQ] using h.b2,h.k,h.ne⟩
theorem dR.r3 (h:dR g0 g1 g2 gF l c e w0 d xs W):dR g0 g1 g2 gF l c e w0 (ae.aQ d 3) (ae.bz xs 3 (.pointer (some ⟨gF,2,none⟩))) W :=
 ⟨by simpa [ae.aQ,ae.bz] using h.a0,by simpa [ae.aQ,ae.bz] using h.a1,by simpa [ae.aQ,ae.bz] using h.a2,fun _=>rfl,by simpa [ae.aQ,ae.bz] using h.a4,h.f,by simpa [ae.aQ] using h.b0,by simpa [ae.aQ] using h.b1,by simpa [ae.aQ] using h.b2,h.k,h.ne⟩
theorem dR.r4 (h:dR g0 g1 g2 gF l c e w0 d xs W):dR g0 g1 g2 gF l c e w0 (ae.aQ d 4) (ae.bz xs 4 (.int .i64 e)) W :=
 ⟨by simpa [ae.aQ,ae.bz] using h.a0,by simpa [ae.aQ,ae.bz] using h.a1,by simpa [ae.aQ,ae.bz] using h.a2,by simpa [ae.aQ,ae.bz] using h.a3,fun _=>rfl,h.f,by simpa [ae.aQ] using h.b0,by simpa [ae.aQ] using h.b1,by simpa [ae.aQ] using h.b2,h.k,h.ne⟩
theorem dR.w5 (h:dR g0 g1 g2 gF l c e w0 d xs W) (v:Value):dR g0 g1 g2 gF l c e w0 (ae.aQ d 5) (ae.bz xs 5 v) (W.setRow g0 (bV)):=by
 have hr:=bK W g0 (bV);obtain ⟨cs0,hb,_⟩:=h.b0;have hk1:∃ cs,Sits (W.setRow g0 (bV)) g1 29 cs/\cs.size=2/\(ae.aQ d 5 6=true->cs=#[.int .i64 l,.int .i64 c]):=by
  obtain ⟨cs,h1,h2,h3⟩:=h.b1;exact ⟨cs,h1.keep hr (by have:=h.ne;omega),h2,by simpa [ae.aQ] using h3⟩
 have hk2:∃ v,Sits (W.setRow g0 (bV)) g2 30 #[v]/\(ae.aQ d 5 7=true->v = .int .i64 e):=by
  obtain ⟨cs,h1,h2⟩:=h.b2;exact ⟨cs,h1.keep hr (by have:=h.ne;omega),by simpa [ae.aQ] using h2⟩
 exact ⟨by simpa [ae.aQ,ae.bz] using h.a0,by simpa [ae.aQ,ae.bz] using h.a1,by simpa [ae.aQ,ae.bz] using h.a2,by simpa [ae.aQ,ae.bz] using h.a3,by simpa [ae.aQ,ae.bz] using h.a4,h.f.keep hr (by have:=h.ne;omega),⟨_,setRow_heap _ _ _ _ _ _ hb,rfl,fun _=>rfl⟩,hk1,hk2,h.k.trans (hr.wider fun x _ e => .inl e),h.ne⟩
theorem dR.w6 (h:dR g0 g1 g2 gF l c e w0 d xs W) (v:Value):dR g0 g1 g2 gF l c e w0 (ae.aQ d 6) (ae.bz xs 6 v) (W.setRow g1 (#[.int .i64 l,.int .i64 c])):=by
 have hr:=bK W g1 (#[.int .i64 l,.int .i64 c]);obtain ⟨cs0,hb,_⟩:=h.b1;have hk0:∃ cs,Sits (W.setRow g1 (#[.int .i64 l,.int .i64 c])) g0 27 cs/\cs.size=4/\(ae.aQ d 6 5=true->cs=bV):=by
  obtain ⟨cs,h1,h2,h3⟩:=h.b0;exact ⟨cs,h1.keep hr (by have:=h.ne;omega),h2,by simpa [ae.aQ] using h3⟩
 have hk2:∃ v,Sits (W.setRow g1 (#[.int .i64 l,.int .i64 c])) g2 30 #[v]/\(ae.aQ d 6 7=true->v = .int .i64 e):=by
  obtain ⟨cs,h1,h2⟩:=h.b2;exact ⟨cs,h1.keep hr (by have:=h.ne;omega),by simpa [ae.aQ] using h2⟩
 exact ⟨by simpa [ae.aQ,ae.bz] using h.a0,by simpa [ae.aQ,ae.bz] using h.a1,by simpa [ae.aQ,ae.bz] using h.a2,by simpa [ae.aQ,ae.bz] using h.a3,by simpa [ae.aQ,ae.bz] using h.a4,h.f.keep hr (by have:=h.ne;omega),hk0,⟨_,setRow_heap _ _ _ _ _ _ hb,rfl,fun _=>rfl⟩,hk2,h.k.trans (hr.wider fun x _ e => .inr (.inl e)),h.ne⟩
theorem dR.w7 (h:dR g0 g1 g2 gF l c e w0 d xs W) (v:Value):dR g0 g1 g2 gF l c e w0 (ae.aQ d 7) (ae.bz xs 7 v) (W.setCell ⟨g2,0,none⟩ (.int .i64 e)):=by
 have hr:aa (fun x=>x=g2) W (W.setCell ⟨g2,0,none⟩ (.int .i64 e)):=(aa.refl (fun x=>x=g2) W).put (p:=⟨g2,0,none⟩) (.inl rfl) _;obtain ⟨cs0,hb,_⟩:=h.b2;have hk0:∃ cs,Sits (W.setCell ⟨g2,0,none⟩ (.int .i64 e)) g0 27 cs/\cs.size=4/\(ae.aQ d 7 5=true->cs=bV):=by
  obtain ⟨cs,h1,h2,h3⟩:=h.b0;exact ⟨cs,h1.keep hr (by have:=h.ne;omega),h2,by simpa [ae.aQ] using h3⟩
 have hk1:∃ cs,Sits (W.setCell ⟨g2,0,none⟩ (.int .i64 e)) g1 29 cs/\cs.size=2/\(ae.aQ d 7 6=true->cs=#[.int .i64 l,.int .i64 c]):=by
  obtain ⟨cs,h1,h2,h3⟩:=h.b1;exact ⟨cs,h1.keep hr (by have:=h.ne;omega),h2,by simpa [ae.aQ] using h3⟩
 exact ⟨by simpa [ae.aQ,ae.bz] using h.a0,by simpa [ae.aQ,ae.bz] using h.a1,by simpa [ae.aQ,ae.bz] using h.a2,by simpa [ae.aQ,ae.bz] using h.a3,by simpa [ae.aQ,ae.bz] using h.a4,h.f.keep hr (by have:=h.ne;omega),hk0,hk1,⟨_,hb.put 0 _,fun _=>rfl⟩,h.k.trans (hr.wider fun x _ e => .inr (.inr e)),h.ne⟩
end
theorem kP {P:Program} {Y Y':Value->World->Prop} {r:Result Next} (h:∀ u W',Y u W' -> Y' u W') (hr:ae.nT P Y r):ae.nT P Y' r:=by
 cases r with
 | ok n w =>
  cases n with
  | value v=>exact h v w hr
  | enter f args=>exact Calls.mono hr fun e w' ⟨v,e1,h1⟩=>⟨v,e1,h v w' h1⟩
  | skip=>exact h undef w hr
  | _=>exact hr
 | halt x w=>exact hr
theorem vQ {P:Program} {o:Oper} {A:Act} {W:World} {Y:Value->World->Prop} {ty:TypeId} {a b:Nat} (ho:o.op = .store ty (.tmp a) (.tmp b)) {g:Nat} {cells old:Array Value} {t:TypeId} (hx:A.tmps[a]?.getD undef = .pointer (some ⟨g,0,none⟩)) (hy:A.tmps[b]?.getD undef = .agg cells)
  (hg:Sits W g t old) (hi:(P.info? ty).map (·.size)=some cells.size) (hold:old.size=cells.size) (h1:cells.all (·.oneCell')=true) (hY:Y undef (W.setRow g cells)):ae.nT P Y ((execOp A.eval o).run P W):=by
 unfold execOp;simp only [ho,ae.aU,hx,hy,Instr.storeAt,Instr.sureAddr,Sem.run_bind,Sem.run_pure,Result.andThen_ok,run_storeVar_row W g t ty old cells hg hi hold h1]
 exact hY
theorem OV:(Tryz.prog.info? 29).map (·.size)=some 2:=by kernel_rfl
theorem Ta:bV.all (·.oneCell')=true:=Oz none none 0 0 0 0 false none
theorem Tc (l c:Int):(#[Value.int .i64 l,.int .i64 c]:Array Value).all (·.oneCell')=true:=by
 rw [Array.all_eq_true'];intro u hu;simp only [List.mem_toArray,List.mem_cons,List.not_mem_nil,or_false] at hu
 rcases hu with rfl | rfl <;> rfl
theorem FU (g0 g1 g2:Nat) (c0 c1:Array Value) (v2:Value) (l c e:Int) (older:List PanicEntry) (w:World) (h0:Sits w g0 27 c0) (z0:c0.size=4) (h1:Sits w g1 29 c1) (z1:c1.size=2) (h2:Sits w g2 30 #[v2]) :
  CallsD Tryz.prog 11 #[.pointer (some ⟨g0,0,none⟩),.pointer (some ⟨g1,0,none⟩),.pointer (some ⟨g2,0,none⟩)] (.panicking ({ v:=.iface 48 (.agg #[.int .i64 l,.int .i64 c,.int .i64 e]),recovered:=false } :: older)) w fun en u' w' =>
   en = .returned (.tuple #[])/\u' = .panicking ({ v:=.iface 48 (.agg #[.int .i64 l,.int .i64 c,.int .i64 e]),recovered:=true } :: older)/\Sits w' g0 27 bV/\Sits w' g1 29 #[.int .i64 l,.int .i64 c]/\Sits w' g2 30 #[.int .i64 e]/\aa (fun x=>x=g0 \/ x=g1 \/ x=g2) w w':=by
 have Gd:=OU
 have HC:=Lib.hid (show dR g0 g1 g2 w.heap.size l c e w (fun _=>false) (fun _=>undef) (w.alloc (.cells #[.int .i64 l,.int .i64 c,.int .i64 e] 48)) from
  ⟨fun h=>(by cases h),fun h=>(by cases h),fun h=>(by cases h),fun h=>(by cases h),fun h=>(by cases h),Sits.new _ _ _,⟨c0,h0.alloc _,z0,fun h=>(by cases h)⟩,⟨c1,h1.alloc _,z1,fun h=>(by cases h)⟩,⟨v2,h2.alloc _,fun h=>(by cases h)⟩,(aa.refl _ _).alloc _,
   h0.differ h1 (by decide),h0.differ h2 (by decide),h1.differ h2 (by decide),by have:=h0.lt;omega,by have:=h1.lt;omega,by have:=h2.lt;omega⟩)
 clear h0 z0 h1 z1 h2;refine callsD_of_wpS Tryz.func11 rfl fun c₀ cs hu=>?_
 apply wpS_seq;apply wpS_region;simp [wpOpsS,go_sem,recoverD,hu,Tryz.ntmps11,Exit.thenS,Gd]
 apply wpS_seq;apply wpS_region;simp [wpOpsS,go_sem,Exit.thenS]
 refine wpS_cond (t:=true) (by simp [Act.eval,Array.replicate]) ?_;simp only [if_true]
 refine wpS_of_wp ?_;generalize hW:w.alloc (.cells #[.int .i64 l,.int .i64 c,.int .i64 e] 48)=W0 at HC ⊢;generalize hgF:w.heap.size=gF at HC ⊢;clear hW hgF Gd;refine ae.FR [some 11,some 12,some 13,some 14,some 15,none,none,none] (dR g0 g1 g2 gF l c e w) (by kernel_rfl) (by kernel_rfl) (by simp [Array.replicate]) ?_ ?_ ?_
 ·intro xs
  exact ⟨fun h=>(by cases h),fun h=>(by cases h),fun h=>(by cases h),fun h=>(by cases h),fun h=>(by cases h),HC.out.f,HC.out.b0,HC.out.b1,HC.out.b2,HC.out.k.drew,HC.out.ne⟩
 ·intro i o hi ho d A W hd he hI hk
  simp only [List.length_cons,List.length_nil,Nat.zero_add,Nat.reduceAdd] at hi
  have HI:=Lib.hid hI;have k0:A.tmps[0]?.getD undef = .pointer (some ⟨g0,0,none⟩):=(hk 0 (by rfl)).trans (by simp [Array.replicate]);have k1:A.tmps[1]?.getD undef = .pointer (some ⟨g1,0,none⟩):=(hk 1 (by rfl)).trans (by simp [Array.replicate]);have k2:A.tmps[2]?.getD undef = .pointer (some ⟨g2,0,none⟩):=(hk 2 (by rfl)).trans (by simp [Array.replicate]);have k3:A.tmps[3]?.getD undef = .pointer (some ⟨gF,0,none⟩):=(hk 3 (by rfl)).trans (by simp [Array.replicate]);clear hk;refine ⟨?_,?_⟩
  ·obtain rfl | rfl | rfl | rfl | rfl | rfl | rfl | rfl:i=0 \/ i=1 \/ i=2 \/ i=3 \/ i=4 \/ i=5 \/ i=6 \/ i=7:=by omega
   all_goals (injection ho with ho;subst ho;kernel_rfl)
  obtain rfl | rfl | rfl | rfl | rfl | rfl | rfl | rfl:i=0 \/ i=1 \/ i=2 \/ i=3 \/ i=4 \/ i=5 \/ i=6 \/ i=7:=by omega
  all_goals (injection ho with ho;subst ho)
  ·refine kP (Y:=oZ (.agg bV) W) (fun u W' h=>by obtain ⟨rfl,rfl⟩:=h;exact HI.out.r0) ?_
   clear hI he;go_simp
   exact ⟨rfl,rfl⟩
  ·refine kP (Y:=oZ (.pointer (some ⟨gF,0,none⟩)) W) (fun u W' h=>by obtain ⟨rfl,rfl⟩:=h;exact HI.out.r1) ?_
   clear hI he;go_simp
   exact ⟨rfl,rfl⟩
  ·have s1:A.tmps[12]?.getD undef = .pointer (some ⟨gF,0,none⟩):=(ae.aU A 12).symm.trans (hI.a1 (he 1 (by kernel_rfl)))
   have f0:=hI.f.cell 0;have f1:=hI.f.cell 1;refine kP (Y:=oZ (.agg #[.int .i64 l,.int .i64 c]) W) (fun u W' h=>by obtain ⟨rfl,rfl⟩:=h;exact HI.out.r2) ?_;clear hI he;go_simp
   exact ⟨rfl,rfl⟩
  ·refine kP (Y:=oZ (.pointer (some ⟨gF,2,none⟩)) W) (fun u W' h=>by obtain ⟨rfl,rfl⟩:=h;exact HI.out.r3) ?_
   clear hI he;go_simp
   exact ⟨rfl,rfl⟩
  ·have s3:A.tmps[14]?.getD undef = .pointer (some ⟨gF,2,none⟩):=(ae.aU A 14).symm.trans (hI.a3 (he 3 (by kernel_rfl)))
   have f2:=hI.f.cell 2;refine kP (Y:=oZ (.int .i64 e) W) (fun u W' h=>by obtain ⟨rfl,rfl⟩:=h;exact HI.out.r4) ?_;clear hI he;go_simp
   exact ⟨rfl,rfl⟩
  ·have s0:A.tmps[11]?.getD undef = .agg bV:=(ae.aU A 11).symm.trans (hI.a0 (he 0 (by kernel_rfl)))
   obtain ⟨cs,hb,hz,_⟩:=hI.b0;exact vQ rfl k0 s0 hb vP hz Ta (HI.out.w5 undef)
  ·have s0:A.tmps[13]?.getD undef = .agg #[.int .i64 l,.int .i64 c]:=(ae.aU A 13).symm.trans (hI.a2 (he 2 (by kernel_rfl)))
   obtain ⟨cs,hb,hz,_⟩:=hI.b1;exact vQ rfl k1 s0 hb OV hz (Tc l c) (HI.out.w6 undef)
  ·have s0:A.tmps[15]?.getD undef = .int .i64 e:=(ae.aU A 15).symm.trans (hI.a4 (he 4 (by kernel_rfl)))
   obtain ⟨v,hb,_⟩:=hI.b2;have cc:=hb.c0;have ff:=hb.free 0;refine kP (Y:=oZ undef (W.setCell ⟨g2,0,none⟩ (.int .i64 e))) (fun u W' h=>by obtain ⟨rfl,rfl⟩:=h;exact HI.out.w7 undef) ?_;have l2:=hb.lt;clear hI he hb;go_simp
   exact ⟨rfl,rfl⟩
 ·intro d xs W hd hI
  obtain ⟨cs0,hb0,_,e0⟩:=hI.b0;obtain ⟨cs1,hb1,_,e1⟩:=hI.b1;obtain ⟨v,hb2,e2⟩:=hI.b2;obtain rfl:=e0 (hd 5 (by decide));obtain rfl:=e1 (hd 6 (by decide));obtain rfl:=e2 (hd 7 (by decide));have HK:=Lib.hid hI.k;cases c₀
  simp_all [bodyPostS,results,Tryz.results11,ae.sV,Act.put]
  exact HK.out
end Go.Proofs.YtaanhmndeobgbaaGreatDoor.fT
