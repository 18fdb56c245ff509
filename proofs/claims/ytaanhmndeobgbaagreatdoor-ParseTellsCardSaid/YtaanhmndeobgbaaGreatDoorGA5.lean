/- Part 6 of the proof: what is used of the texts ExprB, ExprC. -/
import Derived.Test.YtaanhmndeobgbaaGreatDoorGA4
import Derived.Laws.StructEq
import Derived.Laws.Pointers
import Derived.LaidEqlPtr
import Derived.Deep.RegionHeld3
set_option maxRecDepth 100000
set_option maxHeartbeats 2000000
namespace Go.Proofs.YtaanhmndeobgbaaGreatDoor.Expr
open Go.RowKit Mem Go.Lib
def Tree (w:World):Tr->Value->Prop
 | .nil,v=>v = .pointer none
 | .node a l r,v=>∃ g lv rv,v = .pointer (some ⟨g,0,none⟩)/\Sits w g 159 (aM a lv rv)/\Tree w l lv/\Tree w r rv
theorem Tree.stable {w w':World} (hs:Stable 159 w w'):∀ {t:Tr} {v:Value},Tree w t v->Tree w' t v:=by
 intro t;induction t with
 | nil=>intro v h;exact h
 | node a l r ihl ihr =>
  intro v h;obtain ⟨g,lv,rv,hv,hg,hl,hr⟩:=h;exact ⟨g,lv,rv,hv,hs _ _ hg,ihl hl,ihr hr⟩
theorem Tree.below {w w':World} {t:Tr} {v:Value} (h:Tree w t v) (hb:Below w.heap.size w w'):Tree w' t v:=h.stable (Stable.below hb)
theorem Tree.ptr {w:World} {t:Tr} {v:Value} (h:Tree w t v):∃ p:Option Addr,v = .pointer p/\p.isNone=t.isNil:=by
 cases t with
 | nil=>exact ⟨none,h,rfl⟩
 | node a l r=>obtain ⟨g,lv,rv,hv,_⟩:=h;exact ⟨_,hv,rfl⟩
theorem PU:Tryz.prog.underlying 159=some (.struct (Tryz.prog.fieldsOf 159)):=by kernel_rfl
theorem Vy:Tryz.prog.stoodInHeld 159=false:=by kernel_rfl
theorem EL:Tryz.prog.underlying 25=some (.pointer (Tryz.prog.pointee 25)):=by kernel_rfl
theorem qR (p:Option Addr) (W:World):(Op.equalIn 9999 25 (.pointer p) (.pointer p)).run Tryz.prog W = .ok true W:=by
 cases p with
 | none=>exact run_equalIn_pointer_nil W 9998 25 none EL
 | some a =>
  obtain ⟨j,hj⟩:∃ j,Tryz.prog.info? 159=some j:=Option.isSome_iff_exists.1 (show (Tryz.prog.info? 159).isSome=true by kernel_rfl);have h:∀ d:Nat,(Op.equalIn (d+1) 25 (.pointer (some a)) (.pointer (some a))).run Tryz.prog W = .ok true W:=fun d=>by
   simp [Op.equalIn,run_underlying Tryz.underlying25,sizeOf,typeInfo,hj,run_sameAddr_same]
  exact h 9998
theorem lL (p:Option Addr) (W:World):(Op.equalIn 9999 25 (.pointer p) (.pointer none)).run Tryz.prog W = .ok p.isNone W :=
 run_equalIn_pointer_nil W 9998 25 p EL
def kv (a b:It):Bool:=decide (a=b)
theorem pG (a b:It) (p q p' q':Option Addr) (bp bq:Bool) (hp:∀ W,(Op.equalIn 9999 25 (.pointer p) (.pointer p')).run Tryz.prog W = .ok bp W)
    (hq:∀ W,(Op.equalIn 9999 25 (.pointer q) (.pointer q')).run Tryz.prog W = .ok bq W) (W:World) :
   (binOp .eql 159 (.agg (aM a (.pointer p) (.pointer q))) (.agg (aM b (.pointer p') (.pointer q')))).run Tryz.prog W = .ok (.bool (kv a b && bp && bq)) W:=by
  have u3:=Tryz.underlying5;have a3:=Tryz.isAgg5;have z3:=Tryz.sizeOf5;have u4:=Tryz.underlying59;have a4:=Tryz.isAgg59;have z4:=Tryz.sizeOf59;have a5:=Tryz.isAgg25;have z5:=Tryz.sizeOf25;obtain ⟨k,o,n,t,i,x⟩:=a;obtain ⟨k',o',n',t',i',x'⟩:=b;simp only [aM]
  rw [run_eql_struct,show (10000:Nat)=9999+1 from rfl,run_equalIn_agg W 9999 159 _ _ PU Vy];simp only [Program.fieldsOf,Tryz.underlying159]
  by_cases h:k=k' /\ o=o' /\ n=n' /\ t=t' /\ i=i' /\ x=x'
  · obtain ⟨rfl,rfl,rfl,rfl,rfl,rfl⟩:=h;simp only [kv,decide_true,Bool.true_and]
    go_simp
    cases bp <;> cases bq <;> rfl
  · have e:kv ⟨k,o,n,t,i,x⟩ ⟨k',o',n',t',i',x'⟩=false:=by simpa [kv] using h
    rw [e];go_simp
    intro h1 h2 h3 h4 h5 h6;exact absurd ⟨by omega,by omega,by omega,by omega,by omega,by omega⟩ h
theorem Sits.tY {w:World} {g:Nat} {a:It} {lv rv:Value} (h:Sits w g 159 (aM a lv rv)) :
  w.cell? ⟨g,0,none⟩=some (.int .u8 a.kind)/\w.cell? ⟨g,1,none⟩=some (.int .u8 a.op)/\w.cell? ⟨g,2,none⟩=some (.int .u64 a.n)/\w.cell? ⟨g,3,none⟩=some (.int .u8 a.t) /\
  w.cell? ⟨g,4,none⟩=some (.int .u8 a.i)/\w.cell? ⟨g,5,none⟩=some (.int .u8 a.x)/\w.cell? ⟨g,6,none⟩=some lv/\w.cell? ⟨g,7,none⟩=some rv :=
 ⟨h.cell 0,h.cell 1,h.cell 2,h.cell 3,h.cell 4,h.cell 5,h.cell 6,h.cell 7⟩
theorem Tq (op n t i x:Nat) (l r:Tr) (room:Nat) (hroom:room<1000) (w:World) (g:Nat) (pl pr:Option Addr) (hg:Sits w g 159 (aM ⟨0,op,n,t,i,x⟩ (.pointer pl) (.pointer pr)))
  (hl:pl.isNone=l.isNil) (hr:pr.isNone=r.isNil) :
  Calls Tryz.prog 128 #[.pointer (some ⟨g,0,none⟩),.int .i64 (room+1:Nat)] w fun e w'=>Made (.returned (.bool (bC (.node ⟨0,op,n,t,i,x⟩ l r) (room+1)))) w e w':=by
 obtain ⟨q0,q1,q2,q3,q4,q5,q6,q7⟩:=Sits.tY hg;simp only at q0 q1 q2 q3 q4 q5
 have hlt:=hg.lt;have z0:(((room+1:Nat):Int) == 0)=false:=beq_eq_false_iff_ne.2 (by omega);have hq:∀ W,(binOp .eql 159 (.agg #[.int .u8 0,.int .u8 op,.int .u64 n,.int .u8 t,.int .u8 i,.int .u8 x,.pointer pl,.pointer pr]) (.agg #[.int .u8 0,.int .u8 0,.int .u64 n,.int .u8 0,.int .u8 0,.int .u8 0,.pointer none,.pointer none])).run Tryz.prog W = .ok (.bool (kv ⟨0,op,n,t,i,x⟩ ⟨0,0,n,0,0,0⟩ && pl.isNone && pr.isNone)) W :=
  fun W=>pG ⟨0,op,n,t,i,x⟩ ⟨0,0,n,0,0,0⟩ pl pr none none _ _ (lL pl) (lL pr) W
 rw [hl,hr] at hq;have e:(kv ⟨0,op,n,t,i,x⟩ ⟨0,0,n,0,0,0⟩ && l.isNil && r.isNil)=bare ⟨0,op,n,t,i,x⟩ l r:=by
  simp only [kv,bare,It.mk.injEq,true_and]
  by_cases a0:op=0 <;> by_cases a1:t=0 <;> by_cases a2:i=0 <;> by_cases a3:x=0 <;> simp [a0,a1,a2,a3]
 rw [e] at hq;clear e hl hr hg;have e:bC (.node ⟨0,op,n,t,i,x⟩ l r) (room+1)=bare ⟨0,op,n,t,i,x⟩ l r:=by simp [bC,bn]
 rw [e];clear e;generalize bare ⟨0,op,n,t,i,x⟩ l r=b at hq ⊢;go_enter Tryz.func128,Tryz.ntmps128;go_wp2_with fail
 go_quiet (fail)
 go_wp2_with fail
 go_ret;exact ⟨rfl,bu ((Below.refl _ _).alloc (Nat.le_refl _) _) _⟩
theorem Tt (op n t i x:Nat) (l r:Tr) (room:Nat) (hroom:room<1000) (w:World) (g:Nat) (pl pr:Option Addr) (hg:Sits w g 159 (aM ⟨1,op,n,t,i,x⟩ (.pointer pl) (.pointer pr)))
  (hl:pl.isNone=l.isNil) (hr:pr.isNone=r.isNil) :
  Calls Tryz.prog 128 #[.pointer (some ⟨g,0,none⟩),.int .i64 (room+1:Nat)] w fun e w'=>Made (.returned (.bool (bC (.node ⟨1,op,n,t,i,x⟩ l r) (room+1)))) w e w':=by
 obtain ⟨q0,q1,q2,q3,q4,q5,q6,q7⟩:=Sits.tY hg;simp only at q0 q1 q2 q3 q4 q5
 have hlt:=hg.lt;have z0:(((room+1:Nat):Int) == 0)=false:=beq_eq_false_iff_ne.2 (by omega);have hq:∀ W,(binOp .eql 159 (.agg #[.int .u8 1,.int .u8 op,.int .u64 n,.int .u8 t,.int .u8 i,.int .u8 x,.pointer pl,.pointer pr]) (.agg #[.int .u8 1,.int .u8 0,.int .u64 0,.int .u8 0,.int .u8 i,.int .u8 0,.pointer none,.pointer none])).run Tryz.prog W = .ok (.bool (kv ⟨1,op,n,t,i,x⟩ ⟨1,0,0,0,i,0⟩ && pl.isNone && pr.isNone)) W :=
  fun W=>pG ⟨1,op,n,t,i,x⟩ ⟨1,0,0,0,i,0⟩ pl pr none none _ _ (lL pl) (lL pr) W
 rw [hl,hr] at hq;have e:(kv ⟨1,op,n,t,i,x⟩ ⟨1,0,0,0,i,0⟩ && l.isNil && r.isNil)=bare ⟨1,op,n,t,i,x⟩ l r:=by
  simp only [kv,bare,It.mk.injEq,true_and]
  by_cases a0:op=0 <;> by_cases a1:n=0 <;> by_cases a2:t=0 <;> by_cases a3:x=0 <;> simp [a0,a1,a2,a3]
 rw [e] at hq;clear e hl hr hg;by_cases h1:i<8
 ·have i1:(i:Int)<8:=by omega
  have e:bC (.node ⟨1,op,n,t,i,x⟩ l r) (room+1)=bare ⟨1,op,n,t,i,x⟩ l r:=by simp [bC,bn,h1]
  rw [e];clear e;generalize bare ⟨1,op,n,t,i,x⟩ l r=b at hq ⊢;go_enter Tryz.func128,Tryz.ntmps128;go_wp2_with fail
  go_quiet (fail)
  go_wp2_with fail
  go_ret;exact ⟨rfl,bu ((Below.refl _ _).alloc (Nat.le_refl _) _) _⟩
 ·have i1:decide ((i:Int)<8)=false:=decide_eq_false (by omega)
  have e:bC (.node ⟨1,op,n,t,i,x⟩ l r) (room+1)=false:=by simp [bC,bn,h1]
  rw [e];clear e;go_enter Tryz.func128,Tryz.ntmps128;go_wp2_with fail
  go_quiet (fail)
  go_wp2_with fail
  go_ret;exact ⟨rfl,bu ((Below.refl _ _).alloc (Nat.le_refl _) _) _⟩
theorem Tv (op n t i x:Nat) (l r:Tr) (room:Nat) (hroom:room<1000) (w:World) (g:Nat) (pl pr:Option Addr) (hg:Sits w g 159 (aM ⟨2,op,n,t,i,x⟩ (.pointer pl) (.pointer pr)))
  (hl:pl.isNone=l.isNil) (hr:pr.isNone=r.isNil) :
  Calls Tryz.prog 128 #[.pointer (some ⟨g,0,none⟩),.int .i64 (room+1:Nat)] w fun e w'=>Made (.returned (.bool (bC (.node ⟨2,op,n,t,i,x⟩ l r) (room+1)))) w e w':=by
 obtain ⟨q0,q1,q2,q3,q4,q5,q6,q7⟩:=Sits.tY hg;simp only at q0 q1 q2 q3 q4 q5
 have hlt:=hg.lt;have z0:(((room+1:Nat):Int) == 0)=false:=beq_eq_false_iff_ne.2 (by omega);have hq:∀ W,(binOp .eql 159 (.agg #[.int .u8 2,.int .u8 op,.int .u64 n,.int .u8 t,.int .u8 i,.int .u8 x,.pointer pl,.pointer pr]) (.agg #[.int .u8 2,.int .u8 0,.int .u64 0,.int .u8 t,.int .u8 i,.int .u8 0,.pointer none,.pointer none])).run Tryz.prog W = .ok (.bool (kv ⟨2,op,n,t,i,x⟩ ⟨2,0,0,t,i,0⟩ && pl.isNone && pr.isNone)) W :=
  fun W=>pG ⟨2,op,n,t,i,x⟩ ⟨2,0,0,t,i,0⟩ pl pr none none _ _ (lL pl) (lL pr) W
 rw [hl,hr] at hq;have e:(kv ⟨2,op,n,t,i,x⟩ ⟨2,0,0,t,i,0⟩ && l.isNil && r.isNil)=bare ⟨2,op,n,t,i,x⟩ l r:=by
  simp only [kv,bare,It.mk.injEq,true_and]
  by_cases a0:op=0 <;> by_cases a1:n=0 <;> by_cases a2:x=0 <;> simp [a0,a1,a2]
 rw [e] at hq;clear e hl hr hg;by_cases h1:t<4
 ·have i1:(t:Int)<4:=by omega
  by_cases h2:i<8
  ·have i2:(i:Int)<8:=by omega
   have e:bC (.node ⟨2,op,n,t,i,x⟩ l r) (room+1)=bare ⟨2,op,n,t,i,x⟩ l r:=by simp [bC,bn,h1,h2]
   rw [e];clear e;generalize bare ⟨2,op,n,t,i,x⟩ l r=b at hq ⊢;go_enter Tryz.func128,Tryz.ntmps128;go_wp2_with fail
   go_region
   go_wp2_with fail
   go_quiet (fail)
   go_wp2_with fail
   go_ret;exact ⟨rfl,bu ((Below.refl _ _).alloc (Nat.le_refl _) _).drew _⟩
  ·have i2:decide ((i:Int)<8)=false:=decide_eq_false (by omega)
   have e:bC (.node ⟨2,op,n,t,i,x⟩ l r) (room+1)=false:=by simp [bC,bn,h2]
   rw [e];clear e;go_enter Tryz.func128,Tryz.ntmps128;go_wp2_with fail
   go_region
   go_wp2_with fail
   go_quiet (fail)
   go_wp2_with fail
   go_ret;exact ⟨rfl,bu ((Below.refl _ _).alloc (Nat.le_refl _) _).drew _⟩
 ·have i1:(4:Int)<=t:=by omega
  have e:bC (.node ⟨2,op,n,t,i,x⟩ l r) (room+1)=false:=by simp [bC,bn,h1]
  rw [e];clear e;go_enter Tryz.func128,Tryz.ntmps128;go_wp2_with fail
  go_region
  go_wp2_with fail
  go_quiet (fail)
  go_wp2_with fail
  go_ret;exact ⟨rfl,bu ((Below.refl _ _).alloc (Nat.le_refl _) _).drew _⟩
theorem Tw (op n t i x:Nat) (l r:Tr) (room:Nat) (hroom:room<1000) (w:World) (g:Nat) (pl pr:Option Addr) (hg:Sits w g 159 (aM ⟨3,op,n,t,i,x⟩ (.pointer pl) (.pointer pr)))
  (hl:pl.isNone=l.isNil) (hr:pr.isNone=r.isNil) :
  Calls Tryz.prog 128 #[.pointer (some ⟨g,0,none⟩),.int .i64 (room+1:Nat)] w fun e w'=>Made (.returned (.bool (bC (.node ⟨3,op,n,t,i,x⟩ l r) (room+1)))) w e w':=by
 obtain ⟨q0,q1,q2,q3,q4,q5,q6,q7⟩:=Sits.tY hg;simp only at q0 q1 q2 q3 q4 q5
 have hlt:=hg.lt;have z0:(((room+1:Nat):Int) == 0)=false:=beq_eq_false_iff_ne.2 (by omega);have hq:∀ W,(binOp .eql 159 (.agg #[.int .u8 3,.int .u8 op,.int .u64 n,.int .u8 t,.int .u8 i,.int .u8 x,.pointer pl,.pointer pr]) (.agg #[.int .u8 3,.int .u8 0,.int .u64 0,.int .u8 0,.int .u8 0,.int .u8 x,.pointer none,.pointer none])).run Tryz.prog W = .ok (.bool (kv ⟨3,op,n,t,i,x⟩ ⟨3,0,0,0,0,x⟩ && pl.isNone && pr.isNone)) W :=
  fun W=>pG ⟨3,op,n,t,i,x⟩ ⟨3,0,0,0,0,x⟩ pl pr none none _ _ (lL pl) (lL pr) W
 rw [hl,hr] at hq;have e:(kv ⟨3,op,n,t,i,x⟩ ⟨3,0,0,0,0,x⟩ && l.isNil && r.isNil)=bare ⟨3,op,n,t,i,x⟩ l r:=by
  simp only [kv,bare,It.mk.injEq,true_and]
  by_cases a0:op=0 <;> by_cases a1:n=0 <;> by_cases a2:t=0 <;> by_cases a3:i=0 <;> simp [a0,a1,a2,a3]
 rw [e] at hq;clear e hl hr hg;by_cases h1:97<=x
 ·have i1:(97:Int)<=x:=by omega
  by_cases h2:x<=122
  ·have i2:(x:Int)<=122:=by omega
   by_cases h3:x=114
   ·subst h3
    have e:bC (.node ⟨3,op,n,t,i,114⟩ l r) (room+1)=false:=by simp [bC,bn]
    rw [e];clear e;go_enter Tryz.func128,Tryz.ntmps128;go_wp2_with fail
    go_quiet (fail)
    go_wp2_with fail
    go_ret;exact ⟨rfl,bu ((Below.refl _ _).alloc (Nat.le_refl _) _) _⟩
   ·have i3:((x:Int) != 114)=true:=by rw [bne_iff_ne];omega
    have e:bC (.node ⟨3,op,n,t,i,x⟩ l r) (room+1)=bare ⟨3,op,n,t,i,x⟩ l r:=by simp [bC,bn,h1,h2,h3]
    rw [e];clear e;generalize bare ⟨3,op,n,t,i,x⟩ l r=b at hq ⊢;go_enter Tryz.func128,Tryz.ntmps128;go_wp2_with fail
    go_quiet (fail)
    go_wp2_with fail
    go_ret;exact ⟨rfl,bu ((Below.refl _ _).alloc (Nat.le_refl _) _) _⟩
  ·have i2:(122:Int)<x:=by omega
   have e:bC (.node ⟨3,op,n,t,i,x⟩ l r) (room+1)=false:=by simp [bC,bn,h2]
   rw [e];clear e;go_enter Tryz.func128,Tryz.ntmps128;go_wp2_with fail
   go_quiet (fail)
   go_wp2_with fail
   go_ret;exact ⟨rfl,bu ((Below.refl _ _).alloc (Nat.le_refl _) _) _⟩
 ·have i1:(x:Int)<97:=by omega
  have e:bC (.node ⟨3,op,n,t,i,x⟩ l r) (room+1)=false:=by simp [bC,bn,h1]
  rw [e];clear e;go_enter Tryz.func128,Tryz.ntmps128;go_wp2_with fail
  go_quiet (fail)
  go_wp2_with fail
  go_ret;exact ⟨rfl,bu ((Below.refl _ _).alloc (Nat.le_refl _) _) _⟩
theorem Ty (k op n t i x:Nat) (l r:Tr) (room:Nat) (hroom:room<1000) (hk:5<k) (w:World) (g:Nat) (pl pr:Option Addr) (hg:Sits w g 159 (aM ⟨k,op,n,t,i,x⟩ (.pointer pl) (.pointer pr)))
     :
    Calls Tryz.prog 128 #[.pointer (some ⟨g,0,none⟩),.int .i64 (room+1:Nat)] w fun e w'=>Made (.returned (.bool (bC (.node ⟨k,op,n,t,i,x⟩ l r) (room+1)))) w e w':=by
  obtain ⟨q0,q1,q2,q3,q4,q5,q6,q7⟩:=Sits.tY hg;simp only at q0 q1 q2 q3 q4 q5
  have hlt:=hg.lt;have z0:(((room+1:Nat):Int) == 0)=false:=beq_eq_false_iff_ne.2 (by omega);clear hg;have e0:((k:Int) == 0)=false:=beq_eq_false_iff_ne.2 (by omega);have e1:((k:Int) == 1)=false:=beq_eq_false_iff_ne.2 (by omega);have e2:((k:Int) == 2)=false:=beq_eq_false_iff_ne.2 (by omega);have e3:((k:Int) == 3)=false:=beq_eq_false_iff_ne.2 (by omega);have e4:((k:Int) == 4)=false:=beq_eq_false_iff_ne.2 (by omega);have e5:((k:Int) == 5)=false:=beq_eq_false_iff_ne.2 (by omega);have e:bC (.node ⟨k,op,n,t,i,x⟩ l r) (room+1)=false:=by simp [bC,bn,show ¬ k=0 by omega,show ¬ k=1 by omega,show ¬ k=2 by omega,show ¬ k=3 by omega,show ¬ k=4 by omega,show ¬ k=5 by omega]
  rw [e];clear e hk;go_enter Tryz.func128,Tryz.ntmps128;go_wp2_with fail
  go_quiet (fail)
  go_wp2_with fail
  go_ret;exact ⟨rfl,bu ((Below.refl _ _).alloc (Nat.le_refl _) _) _⟩
theorem Tz (op n t i x:Nat) (l r:Tr) (room:Nat) (hroom:room<1000) (w:World) (g:Nat) (pl pr:Option Addr) (hg:Sits w g 159 (aM ⟨4,op,n,t,i,x⟩ (.pointer pl) (.pointer pr)))
  (hr:pr.isNone=r.isNil)
  (HL:Hid (∀ W:World,Below w.heap.size w W->Calls Tryz.prog 128 #[.pointer pl,.int .i64 (room:Nat)] W fun e w'=>Made (.returned (.bool (bC l room))) W e w')) :
  Calls Tryz.prog 128 #[.pointer (some ⟨g,0,none⟩),.int .i64 (room+1:Nat)] w fun e w'=>Made (.returned (.bool (bC (.node ⟨4,op,n,t,i,x⟩ l r) (room+1)))) w e w':=by
 obtain ⟨q0,q1,q2,q3,q4,q5,q6,q7⟩:=Sits.tY hg;simp only at q0 q1 q2 q3 q4 q5
 have hlt:=hg.lt;have z0:(((room+1:Nat):Int) == 0)=false:=beq_eq_false_iff_ne.2 (by omega);have hq:∀ W,(binOp .eql 159 (.agg #[.int .u8 4,.int .u8 op,.int .u64 n,.int .u8 t,.int .u8 i,.int .u8 x,.pointer pl,.pointer pr]) (.agg #[.int .u8 4,.int .u8 op,.int .u64 0,.int .u8 0,.int .u8 0,.int .u8 0,.pointer pl,.pointer none])).run Tryz.prog W = .ok (.bool (kv ⟨4,op,n,t,i,x⟩ ⟨4,op,0,0,0,0⟩ && true && pr.isNone)) W :=
  fun W=>pG ⟨4,op,n,t,i,x⟩ ⟨4,op,0,0,0,0⟩ pl pr pl none _ _ (qR pl) (lL pr) W
 rw [hr] at hq;have e:(kv ⟨4,op,n,t,i,x⟩ ⟨4,op,0,0,0,0⟩ && true && r.isNil)=bare ⟨4,op,n,t,i,x⟩ l r:=by
  simp only [kv,bare,It.mk.injEq,true_and]
  by_cases a0:n=0 <;> by_cases a1:t=0 <;> by_cases a2:i=0 <;> by_cases a3:x=0 <;> simp [a0,a1,a2,a3]
 rw [e] at hq;clear e;by_cases h1:sides op=1
 ·have e:bC (.node ⟨4,op,n,t,i,x⟩ l r) (room+1)=(bC l room && bare ⟨4,op,n,t,i,x⟩ l r):=by simp [bC,h1]
  rw [e];clear e hr;have HS:=hid h1;clear h1;generalize bare ⟨4,op,n,t,i,x⟩ l r=b at hq ⊢;cases hf:bC l room
  all_goals
   rw [hf] at HL;clear hf;go_enter Tryz.func128,Tryz.ntmps128;go_wp2_with fail
   go_region
   go_wp2_with (go_at_call 111;refine (jC _ _).mono ?_;rw [HS.out];rintro e w' ⟨rfl,rfl⟩)
   refine (HL.out _ ((Below.refl _ _).alloc (Nat.le_refl _) _).drew).mono ?_;rintro e w1 ⟨rfl,hb⟩;have S1:=Sits.below (w':=w1) (hg.alloc (.cells (aM ⟨4,op,0,0,0,0⟩ (.pointer pl) (.pointer none)) 159)).drew hb (by have:=hg.lt;simp at this ⊢;omega);have S2:Sits w1 w.heap.size 159 (aM ⟨4,op,0,0,0,0⟩ (.pointer pl) (.pointer none)):=Sits.below (w':=w1) (Sits.new w 159 (aM ⟨4,op,0,0,0,0⟩ (.pointer pl) (.pointer none))).drew hb (by simp);obtain ⟨p0,p1,p2,p3,p4,p5,p6,p7⟩:=Sits.tY S1;simp only at p0 p1 p2 p3 p4 p5
   obtain ⟨o0,o1,o2,o3,o4,o5,o6,o7⟩:=S2.e8;have HB:=hid (Below.tX hb);clear S1 S2 hb;go_wp2_with fail
   go_quiet (fail)
   go_wp2_with fail
   go_ret;exact ⟨rfl,bu HB.out _⟩
 ·have e:bC (.node ⟨4,op,n,t,i,x⟩ l r) (room+1)=false:=by simp [bC,h1]
  rw [e];clear e hr;have i1:(((sides op:Nat):Int) == 1)=false:=beq_eq_false_iff_ne.2 (by omega);clear h1 HL;go_enter Tryz.func128,Tryz.ntmps128;go_wp2_with fail
  go_region
  go_wp2_with (go_at_call 111;refine (jC _ _).mono ?_;rintro e w' ⟨rfl,rfl⟩)
  go_quiet (fail)
  go_wp2_with fail
  go_ret;exact ⟨rfl,bu ((Below.refl _ _).alloc (Nat.le_refl _) _).drew _⟩
theorem TA (op n t i x:Nat) (l r:Tr) (room:Nat) (hroom:room<1000) (w:World) (g:Nat) (pl pr:Option Addr) (hg:Sits w g 159 (aM ⟨5,op,n,t,i,x⟩ (.pointer pl) (.pointer pr)))
  (HL:Hid (∀ W:World,Below w.heap.size w W->Calls Tryz.prog 128 #[.pointer pl,.int .i64 (room:Nat)] W fun e w'=>Made (.returned (.bool (bC l room))) W e w'))
  (HR:Hid (∀ W:World,Below w.heap.size w W->Calls Tryz.prog 128 #[.pointer pr,.int .i64 (room:Nat)] W fun e w'=>Made (.returned (.bool (bC r room))) W e w')) :
  Calls Tryz.prog 128 #[.pointer (some ⟨g,0,none⟩),.int .i64 (room+1:Nat)] w fun e w'=>Made (.returned (.bool (bC (.node ⟨5,op,n,t,i,x⟩ l r) (room+1)))) w e w':=by
 obtain ⟨q0,q1,q2,q3,q4,q5,q6,q7⟩:=Sits.tY hg;simp only at q0 q1 q2 q3 q4 q5
 have hlt:=hg.lt;have z0:(((room+1:Nat):Int) == 0)=false:=beq_eq_false_iff_ne.2 (by omega);have hq:∀ W,(binOp .eql 159 (.agg #[.int .u8 5,.int .u8 op,.int .u64 n,.int .u8 t,.int .u8 i,.int .u8 x,.pointer pl,.pointer pr]) (.agg #[.int .u8 5,.int .u8 op,.int .u64 0,.int .u8 0,.int .u8 0,.int .u8 0,.pointer pl,.pointer pr])).run Tryz.prog W = .ok (.bool (kv ⟨5,op,n,t,i,x⟩ ⟨5,op,0,0,0,0⟩ && true && true)) W :=
  fun W=>pG ⟨5,op,n,t,i,x⟩ ⟨5,op,0,0,0,0⟩ pl pr pl pr _ _ (qR pl) (qR pr) W
 have e:(kv ⟨5,op,n,t,i,x⟩ ⟨5,op,0,0,0,0⟩ && true && true)=bare ⟨5,op,n,t,i,x⟩ l r:=by
  simp only [kv,bare,It.mk.injEq,true_and]
  by_cases a0:n=0 <;> by_cases a1:t=0 <;> by_cases a2:i=0 <;> by_cases a3:x=0 <;> simp [a0,a1,a2,a3]
 rw [e] at hq;clear e;by_cases h1:sides op=2
 ·have e:bC (.node ⟨5,op,n,t,i,x⟩ l r) (room+1)=(bC l room && bC r room && bare ⟨5,op,n,t,i,x⟩ l r):=by simp [bC,h1]
  rw [e];clear e;have HS:=hid h1;clear h1;generalize bare ⟨5,op,n,t,i,x⟩ l r=b at hq ⊢;have S0:Sits ((w.alloc (.cells (aM ⟨5,op,0,0,0,0⟩ (.pointer pl) (.pointer pr)) 159)).drew) g 159 _:=(hg.alloc (.cells (aM ⟨5,op,0,0,0,0⟩ (.pointer pl) (.pointer pr)) 159)).drew;have T0:Sits ((w.alloc (.cells (aM ⟨5,op,0,0,0,0⟩ (.pointer pl) (.pointer pr)) 159)).drew) w.heap.size 159 (aM ⟨5,op,0,0,0,0⟩ (.pointer pl) (.pointer pr)):=(Sits.new w 159 (aM ⟨5,op,0,0,0,0⟩ (.pointer pl) (.pointer pr))).drew;cases hf:bC l room with
  | false =>
   rw [hf] at HL;clear hf HR;go_enter Tryz.func128,Tryz.ntmps128;go_wp2_with fail
   go_region
   go_wp2_with (go_at_call 111;refine (jC _ _).mono ?_;rw [HS.out];rintro e w' ⟨rfl,rfl⟩)
   refine (HL.out _ ((Below.refl _ _).alloc (Nat.le_refl _) _).drew).mono ?_;rintro e w1 ⟨rfl,hb⟩;have HB:=hid (Below.tX hb);clear S0 T0 hb;go_wp2_with fail
   go_quiet (fail)
   go_wp2_with fail
   go_ret;exact ⟨rfl,bu HB.out _⟩
  | true =>
   rw [hf] at HL;clear hf;cases hf:bC r room
   all_goals
    rw [hf] at HR;clear hf;go_enter Tryz.func128,Tryz.ntmps128;go_wp2_with fail
    go_region
    go_wp2_with (go_at_call 111;refine (jC _ _).mono ?_;rw [HS.out];rintro e w' ⟨rfl,rfl⟩)
    refine (HL.out _ ((Below.refl _ _).alloc (Nat.le_refl _) _).drew).mono ?_;rintro e w1 ⟨rfl,hb⟩;have S1:=S0.below hb S0.lt;have T1:=T0.below hb T0.lt;have p7:=S1.c7;have HB:=hid (Below.tX hb);clear S0 T0 hb;go_wp2_with fail
    refine (HR.out _ HB.out).mono ?_;rintro e w2 ⟨rfl,hb⟩;have S2:=S1.below hb S1.lt;have T2:=T1.below hb T1.lt;obtain ⟨p0,p1,p2,p3,p4,p5,p6,p7⟩:=Sits.tY S2;simp only at p0 p1 p2 p3 p4 p5
    obtain ⟨o0,o1,o2,o3,o4,o5,o6,o7⟩:=T2.e8;have HB2:=hid (HB.out.trans (hb.mono HB.out.size));clear S1 T1 S2 T2 hb;go_wp2_with fail
    go_quiet (fail)
    go_wp2_with fail
    go_ret;exact ⟨rfl,bu HB2.out _⟩
 ·have e:bC (.node ⟨5,op,n,t,i,x⟩ l r) (room+1)=false:=by simp [bC,h1]
  rw [e];clear e;have i1:(((sides op:Nat):Int) == 2)=false:=beq_eq_false_iff_ne.2 (by omega);clear h1 HL HR;go_enter Tryz.func128,Tryz.ntmps128;go_wp2_with fail
  go_region
  go_wp2_with (go_at_call 111;refine (jC _ _).mono ?_;rintro e w' ⟨rfl,rfl⟩)
  go_quiet (fail)
  go_wp2_with fail
  go_ret;exact ⟨rfl,bu ((Below.refl _ _).alloc (Nat.le_refl _) _).drew _⟩
theorem Ml (t:Tr):∀ (room:Nat) (v:Value) (w:World),room<1000->Tree w t v->Calls Tryz.prog 128 #[v,.int .i64 (room:Nat)] w fun e w'=>Made (.returned (.bool (bC t room))) w e w':=by
 induction t with
 | nil =>
  intro room v w _ h;obtain rfl:=h;show Calls _ _ _ _ fun e w'=>Made (.returned (.bool false)) w e w'
  go_enter Tryz.func128,Tryz.ntmps128;go_wp2_with fail
  go_ret;exact ⟨rfl,Below.refl _ _⟩
 | node a l r ihl ihr =>
  intro room v w hroom h;obtain ⟨g,lv,rv,rfl,hg,hl,hr⟩:=h;obtain ⟨pl,rfl,hpl⟩:=hl.ptr;obtain ⟨pr,rfl,hpr⟩:=hr.ptr;cases room with
  | zero =>
   show Calls _ _ #[.pointer (some ⟨g,0,none⟩),.int .i64 0] _ fun e w'=>Made (.returned (.bool false)) w e w'
   clear hg hl hr hpl hpr ihl ihr;go_enter Tryz.func128,Tryz.ntmps128;go_wp2_with fail
   go_ret;exact ⟨rfl,Below.refl _ _⟩
  | succ room =>
   obtain ⟨k,op,n,t,i,x⟩:=a;by_cases h0:k=0
   ·subst h0;exact Tq op n t i x l r room (by omega) w g pl pr hg hpl hpr
   by_cases h1:k=1
   ·subst h1;exact Tt op n t i x l r room (by omega) w g pl pr hg hpl hpr
   by_cases h2:k=2
   ·subst h2;exact Tv op n t i x l r room (by omega) w g pl pr hg hpl hpr
   by_cases h3:k=3
   ·subst h3;exact Tw op n t i x l r room (by omega) w g pl pr hg hpl hpr
   by_cases h4:k=4
   ·subst h4;exact Tz op n t i x l r room (by omega) w g pl pr hg hpr (hid fun W hb=>ihl room _ W (by omega) (hl.below hb))
   by_cases h5:k=5
   ·subst h5;exact TA op n t i x l r room (by omega) w g pl pr hg (hid fun W hb=>ihl room _ W (by omega) (hl.below hb)) (hid fun W hb=>ihr room _ W (by omega) (hr.below hb))
   ·exact Ty k op n t i x l r room (by omega) (by omega) w g pl pr hg
theorem CO (t:Tr) (v:Value) (w:World) (h:Tree w t v):Calls Tryz.prog 91 #[v] w fun e w'=>Made (.returned (.bool (bC t 12))) w e w':=by
 have H:=hid (Ml t 12 v w (by omega) h);obtain ⟨p,rfl,_⟩:=h.ptr;clear h;go_enter Tryz.func91,Tryz.ntmps91;go_wp2_with fail
 refine H.out.mono ?_;rintro e w1 ⟨rfl,hb⟩;go_wp2_with fail
 go_ret;exact ⟨rfl,hb⟩
def Reads (e0:Ending) (w:World) (e:Ending) (w':World):Prop:=e=e0/\∃ n,w' = w.drewN n
theorem Reads.below {e0 e:Ending} {w w':World} (h:Reads e0 w e w'):Made e0 w e w':=by
 obtain ⟨he,n,rfl⟩:=h;exact ⟨he,bu (Below.refl _ _) n⟩
theorem Tree.drewN {w:World} {t:Tr} {v:Value} (h:Tree w t v) (n:Nat):Tree (w.drewN n) t v:=h.below (bu (Below.refl _ _) n)
theorem xE {P:Program} {f:FuncId} {args:Array Value} {w:World} {n:Nat} {v:Value}
  (h:Calls P f args (w.drewN n) fun e w'=>Reads (.returned v) (w.drewN n) e w'):Calls P f args (w.drewN n) fun e w''=>e = .returned v/\∃ m,w'' = w.drewN m :=
 Calls.quiet_of (h.mono fun _ _ h=>h)
theorem JY (t:Tr):∀ (m:Nat) (v:Value) (w:World),m<1000->Tree w t v->Calls Tryz.prog 122 #[v,.int .i64 (m:Nat)] w fun e w'=>Reads (.returned (.int .i64 (iY t m:Nat))) w e w':=by
 induction t with
 | nil =>
  intro m v w _ h;obtain rfl:=h;show Calls _ _ _ _ fun e w'=>Reads (.returned (.int .i64 0)) w e w'
  go_enter Tryz.func122,Tryz.ntmps122;go_wp2_with fail
  go_ret;exact ⟨rfl,0,(World.drewN_zero _).symm⟩
 | node a l r ihl ihr =>
  intro m v w hm h;obtain ⟨g,lv,rv,rfl,hg,hl,hr⟩:=h;obtain ⟨pl,rfl,hpl⟩:=hl.ptr;obtain ⟨pr,rfl,hpr⟩:=hr.ptr;clear hpl hpr;cases m with
  | zero =>
   show Calls _ _ #[.pointer (some ⟨g,0,none⟩),.int .i64 0] _ fun e w'=>Reads (.returned (.int .i64 0)) w e w'
   clear hg hl hr ihl ihr;go_enter Tryz.func122,Tryz.ntmps122;go_wp2_with fail
   go_ret;exact ⟨rfl,0,(World.drewN_zero _).symm⟩
  | succ m =>
   have q6:=hg.c6;have q7:=hg.c7;have hlt:=hg.lt;have HL:=hid (fun n=>ihl m (.pointer pl) (w.drewN n) (by omega) (hl.drewN n));have HR:=hid (fun n=>ihr m (.pointer pr) (w.drewN n) (by omega) (hr.drewN n));have z0:(((m+1:Nat):Int) == 0)=false:=beq_eq_false_iff_ne.2 (by omega);have d1:=EB l m;have d2:=EB r m;have E:=hid (show iY (.node a l r) (m+1)=1+max (iY l m) (iY r m) from rfl);clear hg hl hr ihl ihr;generalize iY (.node a l r) (m+1)=D at E ⊢;generalize iY l m=x at HL E d1 ⊢;generalize iY r m=y at HR E d2 ⊢;have hw:IntKind.i64.wrap (((m+1:Nat):Int) - 1)=(m:Int):=by rw [IntWalk.i64_in _ (by omega)];omega
   have hw2:IntKind.i64.wrap ((m:Int)+1 - 1)=(m:Int):=by rw [IntWalk.i64_in _ (by omega)];omega
   go_enter Tryz.func122,Tryz.ntmps122;go_wp2_with fail
   go_quiet ((first | (go_at_call_of 122 (Value.pointer pl);exact xE (HL.out _)) | (go_at_call_of 122 (Value.pointer pr);exact xE (HR.out _))))
   go_wp2_with fail
   go_ret;exact ⟨jO (by rw [E.out];omega),nq,rfl⟩
def mq (w:World) (a b:It):World:=((w.alloc (.cells (aM a (.pointer none) (.pointer none)) 159)).alloc (.cells (aM b (.pointer none) (.pointer none)) 159)).drew
theorem lM (w:World) (a b:It):Sits (mq w a b) w.heap.size 159 (aM a (.pointer none) (.pointer none)):=((Sits.new w _ _).alloc _).drew
theorem kL (w:World) (a b:It):Sits (mq w a b) (w.heap.size+1) 159 (aM b (.pointer none) (.pointer none)):=(Sits.made (by simp) _ _).drew
theorem dZ (w:World) (a b:It):Below w.heap.size w (mq w a b):=(((Below.refl _ _).alloc (Nat.le_refl _) _).alloc (by simp) _).drew
theorem Sits.allIn {W:World} {g:Nat} {a:It} {lv rv:Value} (h:Sits W g 159 (aM a lv rv)) (x:Within (Under W)) :
  x.now.cell? ⟨g,0,none⟩=some (.int .u8 a.kind)/\x.now.cell? ⟨g,1,none⟩=some (.int .u8 a.op)/\x.now.cell? ⟨g,2,none⟩=some (.int .u64 a.n)/\x.now.cell? ⟨g,3,none⟩=some (.int .u8 a.t) /\
  x.now.cell? ⟨g,4,none⟩=some (.int .u8 a.i)/\x.now.cell? ⟨g,5,none⟩=some (.int .u8 a.x)/\x.now.cell? ⟨g,6,none⟩=some lv/\x.now.cell? ⟨g,7,none⟩=some rv :=
 Sits.tY (h.below x.ok h.lt)
theorem JZ (k op n t i x k' op' n' t' i' x':Nat) (g g':Nat) (pl pr XQ pr':Option Addr) (bl br:Bool) (w:World)
  (hg:Sits w g 159 (aM ⟨k,op,n,t,i,x⟩ (.pointer pl) (.pointer pr))) (hg':Sits w g' 159 (aM ⟨k',op',n',t',i',x'⟩ (.pointer XQ) (.pointer pr')))
  (HL:Hid (∀ W:World,Below w.heap.size w W->Calls Tryz.prog 92 #[.pointer pl,.pointer XQ] W fun e w'=>Made (.returned (.bool bl)) W e w'))
  (HR:Hid (∀ W:World,Below w.heap.size w W->Calls Tryz.prog 92 #[.pointer pr,.pointer pr'] W fun e w'=>Made (.returned (.bool br)) W e w')) :
  Calls Tryz.prog 92 #[.pointer (some ⟨g,0,none⟩),.pointer (some ⟨g',0,none⟩)] w fun e w'=>Made (.returned (.bool (kv ⟨k,op,n,t,i,x⟩ ⟨k',op',n',t',i',x'⟩ && bl && br))) w e w':=by
 obtain ⟨q0,q1,q2,q3,q4,q5,q6,q7⟩:=Sits.tY hg;obtain ⟨r0,r1,r2,r3,r4,r5,r6,r7⟩:=Sits.tY hg';simp only at q0 q1 q2 q3 q4 q5 r0 r1 r2 r3 r4 r5
 have hlt:=hg.lt;have hlt':=hg'.lt;have hq:∀ W,(binOp .eql 159 (.agg #[.int .u8 k,.int .u8 op,.int .u64 n,.int .u8 t,.int .u8 i,.int .u8 x,.pointer none,.pointer none]) (.agg #[.int .u8 k',.int .u8 op',.int .u64 n',.int .u8 t',.int .u8 i',.int .u8 x',.pointer none,.pointer none])).run Tryz.prog W = .ok (.bool (kv ⟨k,op,n,t,i,x⟩ ⟨k',op',n',t',i',x'⟩ && true && true)) W :=
  fun W=>pG ⟨k,op,n,t,i,x⟩ ⟨k',op',n',t',i',x'⟩ none none none none _ _ (qR none) (qR none) W
 cases he:kv ⟨k,op,n,t,i,x⟩ ⟨k',op',n',t',i',x'⟩ with
 | false =>
  rw [he] at hq;clear he HL HR;go_enter Tryz.func92,Tryz.ntmps92;go_wp2_with fail
  go_region
  all_goals
   go_wp2_with fail
   go_quiet (fail)
   go_wp2_with fail
   go_ret;exact ⟨rfl,bu (((Below.refl _ _).alloc (Nat.le_refl _) _).alloc (by simp) _).drew _⟩
 | true =>
  rw [he] at hq;clear he;cases bl with
  | false =>
   clear HR;go_enter Tryz.func92,Tryz.ntmps92;go_wp2_with fail
   go_region
   ·go_wp2_with fail
    change Code.wp _ _ _ _ (mq w ⟨k,op,n,t,i,x⟩ ⟨k',op',n',t',i',x'⟩);have cA:=Sits.allIn (lM w ⟨k,op,n,t,i,x⟩ ⟨k',op',n',t',i',x'⟩);have cB:=Sits.allIn (kL w ⟨k,op,n,t,i,x⟩ ⟨k',op',n',t',i',x'⟩);have c1:=Sits.allIn (hg.below (dZ w ⟨k,op,n,t,i,x⟩ ⟨k',op',n',t',i',x'⟩) hg.lt);have c2:=Sits.allIn (hg'.below (dZ w ⟨k,op,n,t,i,x⟩ ⟨k',op',n',t',i',x'⟩) hg'.lt);have ky:=hid (dZ w ⟨k,op,n,t,i,x⟩ ⟨k',op',n',t',i',x'⟩);simp only at cA cB c1 c2
    generalize mq w ⟨k,op,n,t,i,x⟩ ⟨k',op',n',t',i',x'⟩=W at cA cB c1 c2 ky ⊢;have ne:Nonempty (Within (Under W)):=⟨⟨_,Under.refl W⟩⟩
    refine bS (Under W) (Under.refl W) (by kernel_rfl) (by kernel_rfl) ?_
    repeat (go_big_quiet_step ((go_at_call 92;exact iF (HL.out _ (ky.out.trans (Below.mono (Within.ok _) ky.out.size))))))
    refine wpQuiet_nil ?_;intro w' hw';obtain ⟨y,rfl⟩:=hw';have AB:=hid (ky.out.trans (Below.mono y.ok ky.out.size));clear cA cB c1 c2;go_wp2_with fail
    go_ret;exact ⟨rfl,AB.out⟩
   ·go_wp2_with fail
    change Code.wp _ _ _ _ (mq w ⟨k',op',n',t',i',x'⟩ ⟨k,op,n,t,i,x⟩);have cA:=Sits.allIn (kL w ⟨k',op',n',t',i',x'⟩ ⟨k,op,n,t,i,x⟩);have cB:=Sits.allIn (lM w ⟨k',op',n',t',i',x'⟩ ⟨k,op,n,t,i,x⟩);have c1:=Sits.allIn (hg.below (dZ w ⟨k',op',n',t',i',x'⟩ ⟨k,op,n,t,i,x⟩) hg.lt);have c2:=Sits.allIn (hg'.below (dZ w ⟨k',op',n',t',i',x'⟩ ⟨k,op,n,t,i,x⟩) hg'.lt);have ky:=hid (dZ w ⟨k',op',n',t',i',x'⟩ ⟨k,op,n,t,i,x⟩);simp only at cA cB c1 c2
    generalize mq w ⟨k',op',n',t',i',x'⟩ ⟨k,op,n,t,i,x⟩=W at cA cB c1 c2 ky ⊢;have ne:Nonempty (Within (Under W)):=⟨⟨_,Under.refl W⟩⟩
    refine bS (Under W) (Under.refl W) (by kernel_rfl) (by kernel_rfl) ?_
    repeat (go_big_quiet_step ((go_at_call 92;exact iF (HL.out _ (ky.out.trans (Below.mono (Within.ok _) ky.out.size))))))
    refine wpQuiet_nil ?_;intro w' hw';obtain ⟨y,rfl⟩:=hw';have AB:=hid (ky.out.trans (Below.mono y.ok ky.out.size));clear cA cB c1 c2;go_wp2_with fail
    go_ret;exact ⟨rfl,AB.out⟩
  | true =>
   go_enter Tryz.func92,Tryz.ntmps92;go_wp2_with fail
   go_region
   ·go_wp2_with fail
    change Code.wp _ _ _ _ (mq w ⟨k,op,n,t,i,x⟩ ⟨k',op',n',t',i',x'⟩);have cA:=Sits.allIn (lM w ⟨k,op,n,t,i,x⟩ ⟨k',op',n',t',i',x'⟩);have cB:=Sits.allIn (kL w ⟨k,op,n,t,i,x⟩ ⟨k',op',n',t',i',x'⟩);have c1:=Sits.allIn (hg.below (dZ w ⟨k,op,n,t,i,x⟩ ⟨k',op',n',t',i',x'⟩) hg.lt);have c2:=Sits.allIn (hg'.below (dZ w ⟨k,op,n,t,i,x⟩ ⟨k',op',n',t',i',x'⟩) hg'.lt);have ky:=hid (dZ w ⟨k,op,n,t,i,x⟩ ⟨k',op',n',t',i',x'⟩);simp only at cA cB c1 c2
    generalize mq w ⟨k,op,n,t,i,x⟩ ⟨k',op',n',t',i',x'⟩=W at cA cB c1 c2 ky ⊢;have ne:Nonempty (Within (Under W)):=⟨⟨_,Under.refl W⟩⟩
    refine bS (Under W) (Under.refl W) (by kernel_rfl) (by kernel_rfl) ?_
    repeat (go_big_quiet_step (first | (go_at_call_of 92 (Value.pointer pl);exact iF (HL.out _ (ky.out.trans (Below.mono (Within.ok _) ky.out.size)))) | (go_at_call_of 92 (Value.pointer pr);exact iF (HR.out _ (ky.out.trans (Below.mono (Within.ok _) ky.out.size))))))
    refine wpQuiet_nil ?_;intro w' hw';obtain ⟨y,rfl⟩:=hw';have AB:=hid (ky.out.trans (Below.mono y.ok ky.out.size));clear cA cB c1 c2;go_wp2_with fail
    go_ret;exact ⟨rfl,AB.out⟩
   ·go_wp2_with fail
    change Code.wp _ _ _ _ (mq w ⟨k',op',n',t',i',x'⟩ ⟨k,op,n,t,i,x⟩);have cA:=Sits.allIn (kL w ⟨k',op',n',t',i',x'⟩ ⟨k,op,n,t,i,x⟩);have cB:=Sits.allIn (lM w ⟨k',op',n',t',i',x'⟩ ⟨k,op,n,t,i,x⟩);have c1:=Sits.allIn (hg.below (dZ w ⟨k',op',n',t',i',x'⟩ ⟨k,op,n,t,i,x⟩) hg.lt);have c2:=Sits.allIn (hg'.below (dZ w ⟨k',op',n',t',i',x'⟩ ⟨k,op,n,t,i,x⟩) hg'.lt);have ky:=hid (dZ w ⟨k',op',n',t',i',x'⟩ ⟨k,op,n,t,i,x⟩);simp only at cA cB c1 c2
    generalize mq w ⟨k',op',n',t',i',x'⟩ ⟨k,op,n,t,i,x⟩=W at cA cB c1 c2 ky ⊢;have ne:Nonempty (Within (Under W)):=⟨⟨_,Under.refl W⟩⟩
    refine bS (Under W) (Under.refl W) (by kernel_rfl) (by kernel_rfl) ?_
    repeat (go_big_quiet_step (first | (go_at_call_of 92 (Value.pointer pl);exact iF (HL.out _ (ky.out.trans (Below.mono (Within.ok _) ky.out.size)))) | (go_at_call_of 92 (Value.pointer pr);exact iF (HR.out _ (ky.out.trans (Below.mono (Within.ok _) ky.out.size))))))
    refine wpQuiet_nil ?_;intro w' hw';obtain ⟨y,rfl⟩:=hw';have AB:=hid (ky.out.trans (Below.mono y.ok ky.out.size));clear cA cB c1 c2;go_wp2_with fail
    go_ret;exact ⟨rfl,AB.out⟩
theorem PV (a b:It) (l r l' r':Tr):decide (Tr.node a l r=Tr.node b l' r')=(kv a b && decide (l=l') && decide (r=r')):=by
 by_cases h1:a=b <;> by_cases h2:l=l' <;> by_cases h3:r=r' <;> simp [kv,h1,h2,h3]
theorem nil_eq (a:Addr) (W:World):(binOp .eql 25 (.pointer none) (.pointer (some a))).run Tryz.prog W = .ok (.bool false) W:=by
 have h:∀ d:Nat,(Op.equalIn (d+1) 25 (.pointer none) (.pointer (some a))).run Tryz.prog W = .ok false W:=fun d=>by
  simp [Op.equalIn,run_underlying Tryz.underlying25]
 simp only [binOp]
 simp [Op.equal,Op.maxDepth,h 9999]
theorem Mm (s:Tr):∀ (t:Tr) (u v:Value) (w:World),Tree w s u->Tree w t v->Calls Tryz.prog 92 #[u,v] w fun e w'=>Made (.returned (.bool (decide (s=t)))) w e w':=by
 induction s with
 | nil =>
  intro t u v w hs ht;obtain rfl:=hs;cases t with
  | nil =>
   obtain rfl:=ht;show Calls _ _ _ _ fun e w'=>Made (.returned (.bool true)) w e w'
   go_enter Tryz.func92,Tryz.ntmps92;go_wp2_with fail
   go_ret;exact ⟨rfl,Below.refl _ _⟩
  | node b l r =>
   obtain ⟨g,lv,rv,rfl,_⟩:=ht;show Calls _ _ _ _ fun e w'=>Made (.returned (.bool false)) w e w'
   have hn:=nil_eq ⟨g,0,none⟩;go_enter Tryz.func92,Tryz.ntmps92;go_wp2_with fail
   go_ret;exact ⟨rfl,Below.refl _ _⟩
 | node a l r ihl ihr =>
  intro t u v w hs ht;obtain ⟨g,lv,rv,rfl,hg,hl,hr⟩:=hs;cases t with
  | nil =>
   obtain rfl:=ht;show Calls _ _ _ _ fun e w'=>Made (.returned (.bool false)) w e w'
   clear hg hl hr ihl ihr;go_enter Tryz.func92,Tryz.ntmps92;go_wp2_with fail
   go_ret;exact ⟨rfl,Below.refl _ _⟩
  | node b l' r' =>
   obtain ⟨g',lv',rv',rfl,hg',hl',hr'⟩:=ht;obtain ⟨pl,rfl,_⟩:=hl.ptr;obtain ⟨pr,rfl,_⟩:=hr.ptr;obtain ⟨XQ,rfl,_⟩:=hl'.ptr;obtain ⟨pr',rfl,_⟩:=hr'.ptr;rw [PV];obtain ⟨k,op,n,t,i,x⟩:=a;obtain ⟨k',op',n',t',i',x'⟩:=b;exact JZ k op n t i x k' op' n' t' i' x' g g' pl pr XQ pr' _ _ w hg hg' (hid fun W hb=>ihl l' _ _ W (hl.below hb) (hl'.below hb)) (hid fun W hb=>ihr r' _ _ W (hr.below hb) (hr'.below hb))
theorem Mo (s t:Tr) (u v:Value) (w:World) (hs:Tree w s u) (ht:Tree w t v):Calls Tryz.prog 58 #[u,v] w fun e w'=>Made (.returned (.bool (bC s 12 && decide (s=t)))) w e w':=by
 have HM:=hid (CO s u w hs);have HS:=hid (fun (W:World) (hb:Below w.heap.size w W)=>Mm s t u v W (hs.below hb) (ht.below hb));obtain ⟨p,rfl,_⟩:=hs.ptr;obtain ⟨q,rfl,_⟩:=ht.ptr;clear hs ht;generalize decide (s=t)=b at HS ⊢;cases hf:bC s 12
 ·rw [hf] at HM
  clear hf HS;go_enter Tryz.func58,Tryz.ntmps58;go_wp2_with fail
  refine HM.out.mono ?_;rintro e w1 ⟨rfl,hb⟩;have HB:=hid hb;clear hb;go_wp2_with fail
  go_ret;exact ⟨rfl,HB.out⟩
 ·rw [hf] at HM
  clear hf;go_enter Tryz.func58,Tryz.ntmps58;go_wp2_with fail
  refine HM.out.mono ?_;rintro e w1 ⟨rfl,hb⟩;have HB:=hid hb;clear hb;go_wp2_with fail
  refine (HS.out _ HB.out).mono ?_;rintro e w2 ⟨rfl,hb⟩;have HB2:=hid (HB.out.trans (hb.mono HB.out.size));clear hb;go_wp2_with fail
  go_ret;exact ⟨rfl,HB2.out⟩
theorem J3 (t:Tr) (v:Value) (w:World) (h:Tree w t v):Calls Tryz.prog 84 #[v] w fun e w'=>Made (.returned (.int .i64 (iY t 13:Nat))) w e w':=by
 have H:=hid (JY t 13 v w (by omega) h);obtain ⟨p,rfl,_⟩:=h.ptr;clear h;go_enter Tryz.func84,Tryz.ntmps84;go_wp2_with fail
 refine H.out.mono ?_;rintro e w1 hr;obtain ⟨rfl,hb⟩:=Reads.below hr;have HB:=hid hb;clear hb hr;go_wp2_with fail
 go_ret;exact ⟨rfl,HB.out⟩
end Go.Proofs.YtaanhmndeobgbaaGreatDoor.Expr
