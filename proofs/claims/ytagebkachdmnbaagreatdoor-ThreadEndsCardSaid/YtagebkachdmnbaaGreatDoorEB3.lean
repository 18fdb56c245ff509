/- Part 14 of the proof: what is used of the texts UnrC, UnrD, UnrE. -/
import Derived.Test.YtagebkachdmnbaaGreatDoorEB2
import Derived.RangeFuncNested
import Derived.RangeFuncBound
import Derived.RangeFuncCalls
import Derived.RangeFuncLeaves
import Derived.Shelf.Abstract
import Derived.Shelf.RegionOpen
import Derived.WalkKit
import Derived.OwnWalkIn
import Derived.TacticsInMore
import Derived.LoopNIn
import Derived.LoopIn
import Derived.Test.YtagebkachdmnbaaGreatDoorEA0
import Derived.Test.YtagebkachdmnbaaGreatDoorEA8
section
namespace Go.Proofs.YtagebkachdmnbaaGreatDoor.Unr
open Go.RowKit Go.Shelf Go.Proofs.YtagebkachdmnbaaGreatDoor.Mem Go.Proofs.YtagebkachdmnbaaGreatDoor.Expr Go.Proofs.YtagebkachdmnbaaGreatDoor.Prog Go.Proofs.YtagebkachdmnbaaGreatDoor.Row
attribute [local go_sem] Oper.semAt_some
theorem put_enters:Expr.Enters 94:=enters_of Tryz.func94 (by kernel_rfl) rfl
def PutC (w0:World) (n₀ gc bc bm:Nat) (locs:List UInt8) (times:Nat) (q:Cd × Int) (w:World) (e:Ending) (w':World):Prop :=
  e = .returned (.int .i64 q.2)/\CodAt w0 n₀ gc bc bm locs times q.1 w' /\ Turn n₀ w w'
section
variable {w0 w : World} {n₀ gc bc bm times : Nat} {locs : List UInt8} {c : Cd}
set_option maxRecDepth 100000 in
theorem branch_any (hC:CodAt w0 n₀ gc bc bm locs times c w) (a:Option Ex) (th el:Int) (av:Value) (ha:Tree w (trO a) av) :
    Calls Tryz.prog 157 #[.pointer (some ⟨gc,0,none⟩),av,.int .i64 th,.int .i64 el] w (PutC w0 n₀ gc bc bm locs times (putF c (branchI a th el),lenI c) w):=by
  have HP:Hid (Calls Tryz.prog 94 #[.agg #[.int .u8 8,.int .u8 0,.int .u8 0,.int .i64 0,av,.pointer none,.int .i64 th,.int .i64 el],.pointer (some ⟨bc,0,none⟩),.pointer (some ⟨bm,0,none⟩)] w
      (PutC w0 n₀ gc bc bm locs times (putF c (branchI a th el),lenI c) w)):=Lib.hid (put_any hC (branchI a th el) av (.pointer none) ha rfl)
  have en:=put_enters
  unfold Expr.Enters at en
  obtain ⟨r,d,css,hc,_,_⟩:=hC.cod
  obtain ⟨pa,rfl,_⟩:=ha.ptr
  have c2:w.cell? ⟨gc,2,none⟩=some (putV bc bm):=hc.cell 2
  have lc:=hc.lt
  clear hC ha hc
  go_enter Tryz.func157,Tryz.ntmps157
  go_wp2_with fail
  refine HP.out.mono ?_
  rintro e w1 ⟨rfl,h2,h3⟩
  have H:=Lib.hid (And.intro h2 h3)
  clear h2 h3 c2 lc
  go_wp2_with fail
  go_ret
  exact ⟨rfl,H.out.1,H.out.2⟩
set_option maxRecDepth 100000 in
theorem stuck_any (hC:CodAt w0 n₀ gc bc bm locs times c w) :
    Calls Tryz.prog 158 #[.pointer (some ⟨gc,0,none⟩)] w (PutC w0 n₀ gc bc bm locs times (putF c (stuckI (lenI c)),lenI c) w):=by
  have HP:Hid (Calls Tryz.prog 94 #[.agg #[.int .u8 9,.int .u8 0,.int .u8 0,.int .i64 0,.pointer none,.pointer none,.int .i64 (c.1.length:Nat),.int .i64 (c.1.length:Nat)],.pointer (some ⟨bc,0,none⟩),.pointer (some ⟨bm,0,none⟩)] w
      (PutC w0 n₀ gc bc bm locs times (putF c (stuckI (lenI c)),lenI c) w)):=Lib.hid (put_any hC (stuckI (lenI c)) (.pointer none) (.pointer none) rfl rfl)
  have en:=put_enters
  unfold Expr.Enters at en
  obtain ⟨r,d,css,hc,_,_⟩:=hC.cod
  have c0:w.cell? ⟨gc,0,none⟩=some (.slice r c.1.length d):=hc.cell 0
  have c2:w.cell? ⟨gc,2,none⟩=some (putV bc bm):=hc.cell 2
  have lc:=hc.lt
  have i1:(c.1.length:Int)<=32:=by have:=hC.few;omega
  clear hC hc
  go_enter Tryz.func158,Tryz.ntmps158
  go_wp2_with fail
  refine HP.out.mono ?_
  rintro e w1 ⟨rfl,h2,h3⟩
  have H:=Lib.hid (And.intro h2 h3)
  clear h2 h3 c0 c2 lc
  go_wp2_with fail
  go_ret
  exact ⟨rfl,H.out.1,H.out.2⟩
end
structure El where
  kind:Nat
  reg:Nat
  mode:Nat
  loc:Nat
  av:Value
  bv:Value
  tv:Value
  ev:Value
abbrev elCells (x:El):Array Value:=#[.int .u8 x.kind,.int .u8 x.reg,.int .u8 x.mode,.int .u8 x.loc,x.av,x.bv,x.tv,x.ev]
abbrev elV (x:El):Value:=.agg (elCells x)
def ElAt (w:World) (g q:Nat) (x:El):Prop :=
  w.cell? ⟨g,q,none⟩=some (.int .u8 x.kind)/\w.cell? ⟨g,q+1,none⟩=some (.int .u8 x.reg)/\w.cell? ⟨g,q+2,none⟩=some (.int .u8 x.mode)/\w.cell? ⟨g,q+3,none⟩=some (.int .u8 x.loc) /\
    w.cell? ⟨g,q+4,none⟩=some x.av/\w.cell? ⟨g,q+5,none⟩=some x.bv/\w.cell? ⟨g,q+6,none⟩=some x.tv/\w.cell? ⟨g,q+7,none⟩=some x.ev
theorem exists_list {α:Type} {P:Nat->α->Prop}:∀ n,(∀ i,i<n->∃ x,P i x)->∃ l:List α,l.length=n/\∀ i x,l[i]? = some x->P i x
  | 0,_=>⟨[],rfl,fun i x h=>by simp at h⟩
  | n+1,h=>by
    obtain ⟨l,hl,hp⟩:=exists_list n fun i hi=>h i (by omega)
    obtain ⟨x,hx⟩:=h n (by omega)
    refine ⟨l ++ [x],by simp [hl],fun i y hy=>?_⟩
    by_cases hi:i<n
    · rw [List.getElem?_append_left (by omega)] at hy;exact hp i y hy
    · have hin:=(List.getElem?_eq_some_iff.1 hy).1
      rw [List.length_append,List.length_singleton] at hin
      obtain rfl:i=n:=by omega
      rw [List.getElem?_append_right (by omega),show i - l.length=0 by omega] at hy
      simp at hy;subst hy;exact hx
theorem rests_from {w:World} {p:Option Addr} {n:Nat} {b:Blk} (h:Rests w p n b 0):∀ k,k<=b.len->Rests w p n (Blk.from_ b k) k
  | 0,_=>by rw [from_zero];exact h
  | k+1,hk=>by
    obtain ⟨m,t,e,hm⟩:=at_some (b:=b) (k:=k) (by omega)
    have h2:=rests_from h k (by omega)
    rw [from_at hm] at h2
    obtain ⟨_,_,_,_,h3,_⟩:=h2.next
    exact h3
structure ElOf (w:World) (x:El) (m:Mk) (t e:Blk):Prop where
  kind:x.kind=m.kind
  reg:x.reg=m.reg
  mode:x.mode=m.mode
  loc:x.loc=m.loc
  a:Tree w (trO m.a) x.av
  b:Tree w (trO m.b) x.bv
  t:Stand any_ w t x.tv
  e:Stand any_ w e x.ev
theorem stand_els {w:World} {b:Blk} {v:Value} (h:Stand any_ w b v):∃ (p:Option Addr) (cap:Nat) (xs:List El),v = .slice p xs.length cap/\xs.length=b.len/\b.len<=1000000 /\
    (∀ k x,xs[k]? = some x->∃ g o,p=some ⟨g,o,none⟩/\ElAt w g (o+k * 8) x)/\∀ k x m t e,xs[k]? = some x->Blk.at_ b k=some (m,t,e)->ElOf w x m t e:=by
  obtain ⟨p,cap,hv,hl,hr⟩:=h.rests
  obtain ⟨xs,hxl,hx⟩:=exists_list (P:=fun k (x:El)=>(∃ g o,p=some ⟨g,o,none⟩/\ElAt w g (o+k * 8) x)/\∀ m t e,Blk.at_ b k=some (m,t,e)->ElOf w x m t e) b.len (fun k hk=>by
    obtain ⟨m,t,e,hm⟩:=at_some hk
    have h2:=rests_from hr k (by omega)
    rw [from_at hm] at h2
    obtain ⟨g,o,hp,_,_,av,bv,tv,ev,hs,ha,hb,ht,he⟩:=h2.next
    refine ⟨⟨m.kind,m.reg,m.mode,m.loc,av,bv,tv,ev⟩,⟨g,o,hp,hs⟩,fun m' t' e' hm'=>?_⟩
    rw [hm] at hm'
    injection hm' with hm'
    injection hm' with h1 h2
    injection h2 with h2 h3
    subst h1 h2 h3
    exact ⟨rfl,rfl,rfl,rfl,ha,hb,ht,he⟩)
  exact ⟨p,cap,xs,by rw [hxl];exact hv,hxl,hl,fun k x hk=>(hx k x hk).1,fun k x m t e hk hm=>(hx k x hk).2 m t e hm⟩
abbrev encE {β:Type} (f:β->El) (x:Int × β):Array Value:=#[.int .i64 x.1,elV (f x.2)]
theorem rev_at' {α:Type} {l:List α} {k t:Nat} {x:α} (h:k<l.length) (ht:t=l.length - 1 - k) (hx:l[t]? = some x):l.reverse.take (k+1)=l.reverse.take k ++ [x]:=by
  rw [List.take_add_one,List.getElem?_reverse h,<- ht,hx];rfl
set_option maxRecDepth 100000 in
set_option maxHeartbeats 2000000 in
theorem backS1_in {β:Type} (f:β->El) (F:Fence) (n:Nat) (hf:F.fn 156) (hro:F.round=none) (hn:1<=n) (l Bs n₀ c:Nat) (p:Option Addr) (xs:List β) (hx:xs.length<=1000000) (J Jx:List (Int × β)->World->Prop)
    (hY:∀ pre x W,J pre W->pre.length<xs.length->YieldAt F (n - 1) Tryz.prog l (encE f x) W fun e W' =>
      (e = .returned (.bool true)/\J (pre ++ [x]) W' /\ KeptU n₀ W W') \/ (e = .returned (.bool false)/\Jx (pre ++ [x]) W'))
    (W:World) (hBs:Sits W Bs 110 #[.slice p xs.length c]) (hc:∀ k x,xs[k]? = some x->∃ g o,p=some ⟨g,o,none⟩/\g<n₀/\ElAt W g (o+k * 8) (f x)) (h0:J [] W) :
    CallsIn F n Tryz.prog 156 #[.func (.yield l) #[] #[],.pointer (some ⟨Bs,0,none⟩)] W fun e W'=>(∃ v,e = .returned v) /\
      ((∃ ys:List (Int × β),ys.map (·.2)=xs.reverse/\J ys W') \/ (∃ pre:List (Int × β),(∃ k,k<=xs.length/\pre.map (·.2)=xs.reverse.take k)/\Jx pre W')):=by
  have i1:(xs.length:Int)<=1000000:=by omega
  have HC:=Lib.hid hc
  have HBS:=Lib.hid hBs
  have hbs0:W.cell? ⟨Bs,0,none⟩=some (.slice p xs.length c):=hBs.cell 0
  have lbs:=hBs.lt
  clear hc hBs hx
  refine callsIn_of_wp Tryz.func156 rfl hf ?_ hro
  simp only [Tryz.ntmps156,List.size_toArray,List.length_cons,List.length_nil,Nat.reduceAdd,Nat.reduceSub,Array.replicate_succ,Array.replicate_zero,List.push_toArray,List.append_toArray,List.nil_append,List.cons_append]
  gi_wp2
  clear hbs0 lbs
  gi_loopw [3] (fun i wr=>∃ (k:Nat) (z:Int) (pre:List (Int × β)),k<=xs.length/\z=(xs.length:Int) - 1 - k/\i = .int .i64 z/\Hid (pre.map (·.2)=xs.reverse.take k)/\J pre wr/\Hid (KeptU n₀ W wr))
    (fun i _=>(intOf i+1).toNat)
  case atStart=>exact ⟨0,_,[],Nat.zero_le _,by simp,rfl,Lib.hid rfl,h0,Lib.hid (KeptU.refl _ _)⟩
  case round =>
    obtain ⟨k,z,pre,hk,hz,rfl,HP,hJs,HNX⟩:=hrel
    have hbs:wr.cell? ⟨Bs,0,none⟩=some (.slice p xs.length c):=(HNX.out.sits (by decide) HBS.out).cell 0
    have lbs:=(HNX.out.sits (by decide) HBS.out).lt
    by_cases hlt:k<xs.length
    · obtain ⟨t,ht⟩:∃ t,t=xs.length - 1 - k:=⟨_,rfl⟩
      obtain rfl:z=(t:Nat):=by omega
      have htl:t<xs.length:=by omega
      have hxt:xs[t]? = some xs[t]:=List.getElem?_eq_getElem htl
      have HRV:=Lib.hid (rev_at' hlt ht hxt)
      have hpl:pre.length<xs.length:=by
        have:=congrArg List.length HP.out
        rw [List.length_map,List.length_take,List.length_reverse] at this;omega
      obtain ⟨g,o,hpp,hg,c0,c1,c2,c3,c4,c5,c6,c7⟩:=HC.out t _ hxt
      subst hpp
      generalize xs[t]=z at c0 c1 c2 c3 c4 c5 c6 c7 HRV
      obtain ⟨fn,tmps,assign,body,hy,hR⟩:=hY pre ((t:Int),z) wr hJs hpl
      dsimp only [encE] at hy
      generalize f z=x at c0 c1 c2 c3 c4 c5 c6 c7 hy
      obtain ⟨x0,x1,x2,x3,x4,x5,x6,x7⟩:=x
      dsimp only at c0 c1 c2 c3 c4 c5 c6 c7
      replace c0:=HNX.out.cell hg c0
      replace c1:=HNX.out.cell hg c1
      replace c2:=HNX.out.cell hg c2
      replace c3:=HNX.out.cell hg c3
      replace c4:=HNX.out.cell hg c4
      replace c5:=HNX.out.cell hg c5
      replace c6:=HNX.out.cell hg c6
      replace c7:=HNX.out.cell hg c7
      dsimp only [elV,elCells] at hy
      have k1:(t:Int)<(xs.length:Int):=by omega
      have k0:(0:Int)<=(t:Int):=by omega
      have HT:=Lib.hid ht
      have HKL:=Lib.hid hlt
      clear hz ht hxt hpl htl hlt hk hJs
      gi_wp2
      refine hR.mono ?_
      rintro e W3 (⟨rfl,hJ3,hk3⟩ | ⟨rfl,hJx3⟩)
      · gi_wp2
        go_roundw
        case rel=>exact ⟨k+1,_,pre ++ [((t:Int),z)],by have:=HKL.out;omega,by have:=HT.out;have:=HKL.out;omega,rfl,Lib.hid (by rw [List.map_append,HP.out,HRV.out];rfl),hJ3,Lib.hid (HNX.out.trans hk3)⟩
        case measure=>simp [intOf]
      · gi_wp2
        refine bodyPost_ret (results_none rfl _ _ _) rfl ?_
        exact ⟨⟨_,rfl⟩,.inr ⟨_,⟨k+1,HKL.out,by rw [List.map_append,HP.out,HRV.out];rfl⟩,hJx3⟩⟩
    · obtain rfl:k=xs.length:=by omega
      obtain rfl:z = -1:=by omega
      clear hz
      gi_wp2
      go_end0
      exact ⟨⟨_,rfl⟩,.inl ⟨_,by rw [HP.out,List.take_of_length_le (by simp)],hJs⟩⟩
set_option maxRecDepth 100000 in
theorem backS_any (p:Option Addr) (n c:Nat) (w:World) :
    Calls Tryz.prog 95 #[.slice p n c] w fun e w'=>e = .returned (.func (.func 156) #[] #[.pointer (some ⟨w.heap.size,0,none⟩)])/\w' = w.alloc (.cells #[.slice p n c] 110):=by
  go_enter Tryz.func95,Tryz.ntmps95
  go_wp2_with fail
  go_ret
  exact ⟨rfl,rfl⟩
theorem backS1_enters:Expr.Enters 156:=enters_of Tryz.func156 (by kernel_rfl) rfl
end Go.Proofs.YtagebkachdmnbaaGreatDoor.Unr
end
section
namespace Go.Proofs.YtagebkachdmnbaaGreatDoor.Unr
open Go.RowKit Go.Shelf Go.Proofs.YtagebkachdmnbaaGreatDoor.Mem Go.Proofs.YtagebkachdmnbaaGreatDoor.Expr Go.Proofs.YtagebkachdmnbaaGreatDoor.Prog Go.Proofs.YtagebkachdmnbaaGreatDoor.Row
theorem idx_any (t:ByteArray) (b:Nat) (w:World) :
    Calls Tryz.prog 159 #[.string t,.int .u8 b] w fun e w'=>e = .returned (.int .i64 (Lib.indexByte t.data.toList b.toUInt8))/\w=w':=by
  have h:=Tryz.strings_IndexByte t (b:Int) w
  rw [show (b:Int).toNat=b from Int.toNat_natCast b] at h
  exact h.mono fun e w' ⟨h1,h2⟩=>⟨h1,h2.symm⟩
section
variable {w0 w : World} {n₀ gc bc bm times : Nat} {locs : List UInt8} {c : Cd}
set_option maxRecDepth 100000 in
set_option maxHeartbeats 2000000 in
theorem plain_any (hC:CodAt w0 n₀ gc bc bm locs times c w) (x:El) (m:Mk) (t e:Blk) (hx:ElOf w0 x m t e) (dst:Int) (hl:locs.length<=1000) :
    Calls Tryz.prog 98 #[.pointer (some ⟨gc,0,none⟩),elV x,.int .i64 dst] w (PutC w0 n₀ gc bc bm locs times (plainF locs m c dst) w):=by
  have HLW:=Lib.hid (one_low w (.cells (elCells x) 169))
  have HX:=Lib.hid (Sits.new w 169 (elCells x))
  have HC:=Lib.hid (hC.grown HLW.out)
  have HA:=Lib.hid (HC.out.tree hx.a)
  have HB:=Lib.hid (HC.out.tree hx.b)
  have HM:=Lib.hid hx
  have HLL:=Lib.hid hl
  obtain ⟨pa,hpa,_⟩:=hx.a.ptr
  obtain ⟨pb,hpb,_⟩:=hx.b.ptr
  obtain ⟨x0,x1,x2,x3,x4,x5,x6,x7⟩:=x
  dsimp only at hpa hpb
  subst hpa hpb
  clear hC hx hl
  go_enter Tryz.func98,Tryz.ntmps98
  go_upto_region 1 with (fail)
  generalize w.alloc (.cells #[.int .u8 x0,.int .u8 x1,.int .u8 x2,.int .u8 x3,.pointer pa,.pointer pb,x6,x7] 169)=w1 at HLW HX HC HA HB ⊢
  generalize w.heap.size=g4 at HX ⊢
  obtain ⟨r,d,css,hc,_,_⟩:=HC.out.cod
  have c2:w1.cell? ⟨gc,2,none⟩=some (putV bc bm):=hc.cell 2
  have c3:w1.cell? ⟨gc,3,none⟩=some (.string (str locs)):=hc.cell 3
  have lc:=hc.lt
  have x0':w1.cell? ⟨g4,0,none⟩=some (.int .u8 x0):=HX.out.cell 0
  have x1':w1.cell? ⟨g4,1,none⟩=some (.int .u8 x1):=HX.out.cell 1
  have x2':w1.cell? ⟨g4,2,none⟩=some (.int .u8 x2):=HX.out.cell 2
  have x3':w1.cell? ⟨g4,3,none⟩=some (.int .u8 x3):=HX.out.cell 3
  have x4':w1.cell? ⟨g4,4,none⟩=some (.pointer pa):=HX.out.cell 4
  have x5':w1.cell? ⟨g4,5,none⟩=some (.pointer pb):=HX.out.cell 5
  have lx:=HX.out.lt
  have HI:=Lib.hid (fun W=>idx_any (str locs) x3 W)
  clear hc
  go_quiet (refine quiet_eq (HI.out _))
  have HBD:Hid (Below w1.heap.size w1 (w1.drewN nq)):=Lib.hid (drewN_below (Below.refl _ _) _)
  have HC2:=Lib.hid (HC.out.grown HBD.out)
  have HA2:=Lib.hid (HA.out.below HBD.out)
  have HB2:=Lib.hid (HB.out.below HBD.out)
  have HX2:=Lib.hid (HX.out.below HBD.out HX.out.lt)
  have HLW2:=Lib.hid (HLW.out.trans (HBD.out.mono HLW.out.size))
  have HLC:Hid (max 0 (Lib.indexByte (str locs).data.toList x3.toUInt8)=locI locs x3):=Lib.hid rfl
  have HLB:Hid (0<=locI locs x3):=Lib.hid (by unfold locI;omega)
  clear HC HA HB HX HLW c2 c3 lc x0' x1' x2' x3' x4' x5' lx HI
  generalize w1.drewN nq=w2 at HBD HC2 HA2 HB2 HX2 HLW2 ⊢
  go_upto_region 2 with (fail)
  have HC3:=Lib.hid (HC2.out.grown (Below.refl _ w2).drew)
  have HP:Hid (Calls Tryz.prog 94 #[.agg #[.int .u8 x0,.int .u8 x1,.int .u8 x2,.int .i64 (locI locs x3),.pointer pa,.pointer pb,.int .i64 dst,.int .i64 dst],.pointer (some ⟨bc,0,none⟩),.pointer (some ⟨bm,0,none⟩)] w2.drew
      (PutC w0 n₀ gc bc bm locs times (plainF locs m c dst) w2.drew)):=Lib.hid (by
    have h:=put_any HC3.out (plainI locs m dst) (.pointer pa) (.pointer pb) (HA2.out.below (Below.refl _ w2).drew) (HB2.out.below (Below.refl _ w2).drew)
    have e0:x0=m.kind:=HM.out.kind
    have e1:x1=m.reg:=HM.out.reg
    have e2:x2=m.mode:=HM.out.mode
    have e3:x3=m.loc:=HM.out.loc
    rw [e0,e1,e2,e3]
    exact h)
  have en:=put_enters
  unfold Expr.Enters at en
  obtain ⟨r,d,css,hc,_,_⟩:=HC2.out.cod
  have c2:w2.cell? ⟨gc,2,none⟩=some (putV bc bm):=hc.cell 2
  have lc:=hc.lt
  have x0':w2.cell? ⟨g4,0,none⟩=some (.int .u8 x0):=HX2.out.cell 0
  have x1':w2.cell? ⟨g4,1,none⟩=some (.int .u8 x1):=HX2.out.cell 1
  have x2':w2.cell? ⟨g4,2,none⟩=some (.int .u8 x2):=HX2.out.cell 2
  have x4':w2.cell? ⟨g4,4,none⟩=some (.pointer pa):=HX2.out.cell 4
  have x5':w2.cell? ⟨g4,5,none⟩=some (.pointer pb):=HX2.out.cell 5
  have lx:=HX2.out.lt
  clear hc
  have hml:max 0 (Lib.indexByte (str locs).data.toList (UInt8.ofNat x3))=locI locs x3:=rfl
  rw [hml]
  clear hml
  generalize locI locs x3=li at HP HLB ⊢
  go_still_tail 18,(by kernel_rfl)
  change wpList _ _ _ _ _ w2.drew
  clear c2 lc x0' x1' x2' x4' x5' lx
  go_wp2_with fail
  refine HP.out.mono ?_
  rintro e w3 ⟨rfl,h2,h3⟩
  have H:=Lib.hid (And.intro h2 ((Turn.of_below HLW2.out).trans ((Turn.of_below (Below.refl _ w2).drew).trans h3)))
  clear h2 h3
  go_wp2_with fail
  go_ret
  exact ⟨rfl,H.out.1,H.out.2⟩
end
end Go.Proofs.YtagebkachdmnbaaGreatDoor.Unr
end
section
namespace Go.Proofs.YtagebkachdmnbaaGreatDoor.Unr
open Go.RowKit Go.Shelf Go.Proofs.YtagebkachdmnbaaGreatDoor.Mem Go.Proofs.YtagebkachdmnbaaGreatDoor.Expr Go.Proofs.YtagebkachdmnbaaGreatDoor.Prog Go.Proofs.YtagebkachdmnbaaGreatDoor.Row
def BlkC (w0:World) (n₀ gc bc bm:Nat) (locs:List UInt8) (times:Nat) (b:Blk):Prop :=
  ∀ (c:Cd) (dst:Int) (v:Value) (W:World),CodAt w0 n₀ gc bc bm locs times c W->Stand any_ w0 b v -> -1<=dst->dst<=32 ->
    Calls Tryz.prog 43 #[.pointer (some ⟨gc,0,none⟩),v,.int .i64 dst] W (PutC w0 n₀ gc bc bm locs times (blockF locs times b c dst) W)
theorem loopN_succ {α:Type} (f:α->α):∀ n x,loopN f (n+1) x=f (loopN f n x)
  | 0,_=>rfl
  | n+1,x=>loopN_succ f n (f x)
theorem rel_turn (n₀:Nat):Flow.Rel (Turn n₀):=⟨Turn.refl n₀,fun h k=>h.trans k,fun w=>Turn.of_below (Below.refl _ w).drew⟩
section
variable {w0 w : World} {n₀ gc bc bm times : Nat} {locs : List UInt8} {c : Cd}
set_option maxRecDepth 100000 in
set_option maxHeartbeats 2000000 in
theorem choice_any (hC:CodAt w0 n₀ gc bc bm locs times c w) (x:El) (m:Mk) (t e:Blk) (hx:ElOf w0 x m t e) (hT:BlkC w0 n₀ gc bc bm locs times t) (hE:BlkC w0 n₀ gc bc bm locs times e) (dst:Int) (hd:-1<=dst) (hd2:dst<=32) :
    Calls Tryz.prog 96 #[.pointer (some ⟨gc,0,none⟩),elV x,.int .i64 dst] w (PutC w0 n₀ gc bc bm locs times (choiceF (blockF locs times t) (blockF locs times e) m.a c dst) w):=by
  have HLW:=Lib.hid (one_low w (.cells (elCells x) 169))
  have HX:=Lib.hid (Sits.new w 169 (elCells x))
  have HC:=Lib.hid (hC.grown HLW.out)
  have HM:=Lib.hid hx
  have HT:=Lib.hid (fun c v W h1 h2=>hT c dst v W h1 h2 hd hd2)
  have HE:=Lib.hid (fun c v W h1 h2=>hE c dst v W h1 h2 hd hd2)
  have HCH:Hid (choiceF (blockF locs times t) (blockF locs times e) m.a c dst=(putF (blockF locs times e (blockF locs times t c dst).1 dst).1 (branchI m.a (blockF locs times t c dst).2 (blockF locs times e (blockF locs times t c dst).1 dst).2),lenI (blockF locs times e (blockF locs times t c dst).1 dst).1)):=Lib.hid rfl
  generalize choiceF (blockF locs times t) (blockF locs times e) m.a c dst=out at HCH ⊢
  obtain ⟨pa,hpa,_⟩:=hx.a.ptr
  obtain ⟨pt,ct,hpt,_⟩:=hx.t.len
  obtain ⟨pe,ce,hpe,_⟩:=hx.e.len
  obtain ⟨x0,x1,x2,x3,x4,x5,x6,x7⟩:=x
  dsimp only at hpa hpt hpe
  subst hpa hpt hpe
  clear hC hx hT hE hd hd2
  go_enter Tryz.func96,Tryz.ntmps96
  go_upto_region 1 with (fail)
  generalize w.alloc (.cells #[.int .u8 x0,.int .u8 x1,.int .u8 x2,.int .u8 x3,.pointer pa,x5,.slice pt t.len ct,.slice pe e.len ce] 169)=w1 at HLW HX HC ⊢
  generalize w.heap.size=g4 at HX ⊢
  have z6:w1.cell? ⟨g4,6,none⟩=some (.slice pt t.len ct):=HX.out.cell 6
  have lx:=HX.out.lt
  go_wp2_with fail
  refine (HT.out c _ w1 HC.out HM.out.t).mono ?_
  rintro e' w2 ⟨rfl,h2,h3⟩
  have HC2:=Lib.hid h2
  have HT2:=Lib.hid h3
  have HX2:=Lib.hid (h3.sits (by decide) HX.out)
  clear h2 h3 z6 lx
  generalize (blockF locs times t c dst).2=th at HCH ⊢
  generalize (blockF locs times t c dst).1=ca at HCH HC2 ⊢
  have z7:w2.cell? ⟨g4,7,none⟩=some (.slice pe e.len ce):=HX2.out.cell 7
  have lx:=HX2.out.lt
  go_wp2_with fail
  refine (HE.out ca _ w2 HC2.out HM.out.e).mono ?_
  rintro e' w3 ⟨rfl,h2,h3⟩
  have HC3:=Lib.hid h2
  have HT3:=Lib.hid (HT2.out.trans h3)
  have HX3:=Lib.hid (h3.sits (by decide) HX2.out)
  clear h2 h3 z7 lx HX HX2
  generalize (blockF locs times e ca dst).2=el at HCH ⊢
  generalize (blockF locs times e ca dst).1=cb at HCH HC3 ⊢
  have z4:w3.cell? ⟨g4,4,none⟩=some (.pointer pa):=HX3.out.cell 4
  have lx:=HX3.out.lt
  have HBR:=Lib.hid (branch_any HC3.out m.a th el (.pointer pa) (HC3.out.tree HM.out.a))
  go_wp2_with fail
  refine HBR.out.mono ?_
  rintro e' w4 ⟨rfl,h2,h3⟩
  have H:=Lib.hid (And.intro h2 ((Turn.of_below HLW.out).trans (HT3.out.trans h3)))
  clear h2 h3 z4 lx
  go_wp2_with fail
  go_ret
  rw [HCH.out]
  exact ⟨rfl,H.out.1,H.out.2⟩
set_option maxRecDepth 100000 in
set_option maxHeartbeats 4000000 in
theorem loop_any (hC:CodAt w0 n₀ gc bc bm locs times c w) (x:El) (m:Mk) (t e:Blk) (hx:ElOf w0 x m t e) (hT:BlkC w0 n₀ gc bc bm locs times t) (dst:Int) (hd:-1<=dst) (hd2:dst<=32) (htm:times<=8) :
    Calls Tryz.prog 97 #[.pointer (some ⟨gc,0,none⟩),elV x,.int .i64 dst] w (PutC w0 n₀ gc bc bm locs times (loopF (blockF locs times t) times m.a c dst) w):=by
  have HLW:=Lib.hid (one_low w (.cells (elCells x) 169))
  have HX:=Lib.hid (Sits.new w 169 (elCells x))
  have HC:=Lib.hid (hC.grown HLW.out)
  have HM:=Lib.hid hx
  have HT:=Lib.hid hT
  have HKP:=Lib.hid (block_keeps locs times t)
  have HDS:=Lib.hid (And.intro hd hd2)
  have i8:(times:Int)<=8:=by omega
  have HTM:=Lib.hid htm
  have HLF:Hid (loopF (blockF locs times t) times m.a c dst=loopN (roundF (blockF locs times t) m.a dst) times (putF (putF c (stuckI (lenI c))) (branchI m.a (lenI c) dst),lenI (putF c (stuckI (lenI c))))):=Lib.hid rfl
  generalize loopF (blockF locs times t) times m.a c dst=out at HLF ⊢
  have HL0:Hid (0<=lenI c/\lenI c<=32):=Lib.hid (lenI_bound hC.few)
  obtain ⟨pa,hpa,_⟩:=hx.a.ptr
  obtain ⟨pt,ct,hpt,_⟩:=hx.t.len
  obtain ⟨x0,x1,x2,x3,x4,x5,x6,x7⟩:=x
  dsimp only at hpa hpt
  subst hpa hpt
  clear hC hx hT hd hd2 htm
  go_enter Tryz.func97,Tryz.ntmps97
  go_upto_region 1 with (fail)
  generalize w.alloc (.cells #[.int .u8 x0,.int .u8 x1,.int .u8 x2,.int .u8 x3,.pointer pa,x5,.slice pt t.len ct,x7] 169)=w1 at HLW HX HC ⊢
  generalize w.heap.size=g4 at HX ⊢
  refine Flow.wp_flowB Flow.rel_below (rel_turn n₀) (fun x y h=>Turn.of_below h) [8,9,10,11,12,13]
    [Flow.eqV (.pointer (some ⟨gc,0,none⟩)),Flow.eqV (.pointer (some ⟨g4,4,none⟩)),Flow.eqV (.pointer pa),Flow.eqV (.pointer (some ⟨gc,0,none⟩)),fun u W=>u = .int .i64 (lenI c)/\CodAt w0 n₀ gc bc bm locs times (putF c (stuckI (lenI c))) W,Flow.eqV (.int .i64 dst)] 4
    (fun _ _=>False) (by decide) (by kernel_rfl) (by kernel_rfl) (by kernel_rfl) (by kernel_rfl) (by rfl) ?_ ?_ ?_ ?_ (fun _ _ _ _ h=>h.elim) ?_
  · simp only [List.mem_cons,List.not_mem_nil,or_false,forall_eq_or_imp,forall_eq]
    exact ⟨Flow.eqV_monoR _,Flow.eqV_monoR _,Flow.eqV_monoR _,Flow.eqV_monoR _,fun u W W' ⟨h1,h2⟩ hb=>⟨h1,h2.grown hb⟩,Flow.eqV_monoR _⟩
  · intro i hi
    match i,hi with
    | 0,_=>exact Flow.eqV_monoR _
    | 1,_=>exact Flow.eqV_monoR _
    | 2,_=>exact Flow.eqV_monoR _
    | 3,_=>exact Flow.eqV_monoR _
    | 5,_=>exact Flow.eqV_monoR _
    | n+6,_=>exact fun u W W' _ _=>trivial
  · intro i o' hi hia ho A W hW hk he
    simp only [List.length_cons,List.length_nil,Nat.zero_add,Nat.reduceAdd] at hi
    have hgx:=hW.sits (by decide) HX.out
    have z4:W.cell? ⟨g4,4,none⟩=some (.pointer pa):=hgx.cell 4
    have lx:=hgx.lt
    obtain rfl | rfl | rfl | rfl | rfl:i=0 \/ i=1 \/ i=2 \/ i=3 \/ i=5:=by omega
    · injection ho with ho;subst ho
      have t0:A.tmps[0]?.getD undef = .pointer (some ⟨gc,0,none⟩):=hk 0 (by rfl)
      refine .inl ⟨by kernel_rfl,?_⟩
      go_simp
      exact ⟨rfl,Below.refl _ _⟩
    · injection ho with ho;subst ho
      have t4:A.tmps[4]?.getD undef = .pointer (some ⟨g4,0,none⟩):=hk 4 (by rfl)
      refine .inl ⟨by kernel_rfl,?_⟩
      go_simp
      exact ⟨rfl,Below.refl _ _⟩
    · injection ho with ho;subst ho
      have t9:A.tmps[9]?.getD undef = .pointer (some ⟨g4,4,none⟩):=he 1 (by decide) (by kernel_rfl)
      refine .inl ⟨by kernel_rfl,?_⟩
      go_simp
      exact ⟨rfl,Below.refl _ _⟩
    · injection ho with ho;subst ho
      have t0:A.tmps[0]?.getD undef = .pointer (some ⟨gc,0,none⟩):=hk 0 (by rfl)
      refine .inl ⟨by kernel_rfl,?_⟩
      go_simp
      exact ⟨rfl,Below.refl _ _⟩
    · injection ho with ho;subst ho
      have t2:A.tmps[2]?.getD undef = .int .i64 dst:=hk 2 (by rfl)
      refine .inl ⟨by kernel_rfl,?_⟩
      go_simp
      exact ⟨rfl,Below.refl _ _⟩
  · intro o' ho A W hW hk he
    injection ho with ho;subst ho
    have t11:A.tmps[11]?.getD undef = .pointer (some ⟨gc,0,none⟩):=he 3 (by decide) (by kernel_rfl)
    refine ⟨by kernel_rfl,?_⟩
    have HS:=Lib.hid (stuck_any (HC.out.grown hW))
    go_simp
    refine HS.out.mono ?_
    rintro e' w2 ⟨rfl,h2,h3⟩
    exact .inl ⟨_,rfl,⟨rfl,h2⟩,h3⟩
  · intro xs W hW hv
    obtain ⟨x12,hC2⟩:xs 4 = .int .i64 (lenI c)/\CodAt w0 n₀ gc bc bm locs times (putF c (stuckI (lenI c))) W:=hv 4 (by decide)
    have x8:xs 0 = .pointer (some ⟨gc,0,none⟩):=hv 0 (by decide)
    have x10:xs 2 = .pointer pa:=hv 2 (by decide)
    have x13:xs 5 = .int .i64 dst:=hv 5 (by decide)
    have HC2:=Lib.hid hC2
    have HT1:=Lib.hid hW
    have HX2:=Lib.hid (hW.sits (by decide) HX.out)
    simp only [List.length_cons,List.length_nil,Nat.zero_add,Nat.reduceAdd,List.drop_succ_cons,List.drop_zero,Flow.putL,Act.put,List.setIfInBounds_toArray,List.set_cons_zero,List.set_cons_succ,x8,x10,x12,x13]
    clear hv hW hC2 x8 x10 x12 x13 HC HX
    generalize putF c (stuckI (lenI c))=c1 at HC2 HLF
    generalize lenI c=own at HL0 HLF ⊢
    have HBR:=Lib.hid (branch_any HC2.out m.a own dst (.pointer pa) (HC2.out.tree HM.out.a))
    go_wp2_with fail
    refine HBR.out.mono ?_
    rintro e' w3 ⟨rfl,h2,h3⟩
    have HC3:=Lib.hid h2
    have HT3:=Lib.hid (HT1.out.trans h3)
    have HX3:=Lib.hid (h3.sits (by decide) HX2.out)
    have HQ:Hid (0<=lenI c1/\lenI c1<=32):=Lib.hid (lenI_bound HC2.out.few)
    clear h2 h3 HBR HC2 HT1 HX2
    obtain ⟨q0,hq0⟩:∃ q0:Cd × Int,q0=(putF c1 (branchI m.a own dst),lenI c1):=⟨_,rfl⟩
    have HQ0:Hid (out=loopN (roundF (blockF locs times t) m.a dst) times q0):=Lib.hid (by rw [hq0];exact HLF.out)
    have HC4:Hid (CodAt w0 n₀ gc bc bm locs times q0.1 w3):=Lib.hid (by rw [hq0];exact HC3.out)
    have HB4:Hid (0<=q0.2/\q0.2<=32):=Lib.hid (by rw [hq0];exact HQ.out)
    have e1:lenI c1=q0.2:=by rw [hq0]
    rw [e1]
    clear hq0 e1 HLF HC3 HQ
    obtain ⟨r,d,css,hc,_,_⟩:=HC4.out.cod
    have k4:w3.cell? ⟨gc,4,none⟩=some (.int .i64 (times:Nat)):=hc.cell 4
    have lc:=hc.lt
    clear hc
    go_wp2_with fail
    clear k4 lc
    go_loopg [7,19] times (fun gg v7 v19 wx=>∃ k,k<=times/\gg=times - k/\v7 = .int .i64 (loopN (roundF (blockF locs times t) m.a dst) k q0).2/\v19 = .int .i64 (k:Nat)/\Hid (CodAt w0 n₀ gc bc bm locs times (loopN (roundF (blockF locs times t) m.a dst) k q0).1 wx)/\Hid (0<=(loopN (roundF (blockF locs times t) m.a dst) k q0).2/\(loopN (roundF (blockF locs times t) m.a dst) k q0).2<=32)/\Hid (Turn n₀ w1 wx)/\Hid (Sits wx g4 169 #[.int .u8 x0,.int .u8 x1,.int .u8 x2,.int .u8 x3,.pointer pa,x5,.slice pt t.len ct,x7]))
    case atStart=>exact ⟨0,by omega,by omega,rfl,rfl,HC4,HB4,HT3,HX3⟩
    case round =>
      obtain ⟨k,hk,rfl,rfl,rfl,HCk,HBk,HTk,HXk⟩:=hrel
      by_cases hlt:k<times
      · have HSUC:=Lib.hid (loopN_succ (roundF (blockF locs times t) m.a dst) k q0)
        generalize loopN (roundF (blockF locs times t) m.a dst) k q0=q at HCk HBk HSUC ⊢
        have j1:(k:Int)<(times:Int):=by omega
        have HKL:=Lib.hid hlt
        clear hlt hk HC4 HT3 HX3
        go_upto_region 4 with (fail)
        refine Flow.wp_flowB Flow.rel_below (rel_turn n₀) (fun x y h=>Turn.of_below h) [21,22,23,24,25,26,27,28,29]
          [Flow.eqV (.pointer (some ⟨gc,0,none⟩)),Flow.eqV (.pointer (some ⟨g4,4,none⟩)),Flow.eqV (.pointer pa),Flow.eqV (.pointer (some ⟨gc,0,none⟩)),Flow.eqV (.pointer (some ⟨g4,6,none⟩)),Flow.eqV (.slice pt t.len ct),Flow.eqV (.int .i64 q.2),
           fun u W=>u = .int .i64 (blockF locs times t q.1 q.2).2/\CodAt w0 n₀ gc bc bm locs times (blockF locs times t q.1 q.2).1 W,Flow.eqV (.int .i64 dst)] 7
          (fun _ _=>False) (by decide) (by kernel_rfl) (by kernel_rfl) (by kernel_rfl) (by kernel_rfl) (by rfl) ?_ ?_ ?_ ?_ (fun _ _ _ _ h=>h.elim) ?_
        · simp only [List.mem_cons,List.not_mem_nil,or_false,forall_eq_or_imp,forall_eq]
          exact ⟨Flow.eqV_monoR _,Flow.eqV_monoR _,Flow.eqV_monoR _,Flow.eqV_monoR _,Flow.eqV_monoR _,Flow.eqV_monoR _,Flow.eqV_monoR _,fun u W W' ⟨h1,h2⟩ hb=>⟨h1,h2.grown hb⟩,Flow.eqV_monoR _⟩
        · intro i hi
          match i,hi with
          | 0,_=>exact Flow.eqV_monoR _
          | 1,_=>exact Flow.eqV_monoR _
          | 2,_=>exact Flow.eqV_monoR _
          | 3,_=>exact Flow.eqV_monoR _
          | 4,_=>exact Flow.eqV_monoR _
          | 5,_=>exact Flow.eqV_monoR _
          | 6,_=>exact Flow.eqV_monoR _
          | 8,_=>exact Flow.eqV_monoR _
          | n+9,_=>exact fun u W W' _ _=>trivial
        · intro i o' hi hia ho A W hW hk he
          simp only [List.length_cons,List.length_nil,Nat.zero_add,Nat.reduceAdd] at hi
          have hgx:=hW.sits (by decide) HXk.out
          have z4:W.cell? ⟨g4,4,none⟩=some (.pointer pa):=hgx.cell 4
          have z6:W.cell? ⟨g4,6,none⟩=some (.slice pt t.len ct):=hgx.cell 6
          have lx:=hgx.lt
          obtain rfl | rfl | rfl | rfl | rfl | rfl | rfl | rfl:i=0 \/ i=1 \/ i=2 \/ i=3 \/ i=4 \/ i=5 \/ i=6 \/ i=8:=by omega
          · injection ho with ho;subst ho
            have t0:A.tmps[0]?.getD undef = .pointer (some ⟨gc,0,none⟩):=hk 0 (by rfl)
            refine .inl ⟨by kernel_rfl,?_⟩
            go_simp
            exact ⟨rfl,Below.refl _ _⟩
          · injection ho with ho;subst ho
            have t4:A.tmps[4]?.getD undef = .pointer (some ⟨g4,0,none⟩):=hk 4 (by rfl)
            refine .inl ⟨by kernel_rfl,?_⟩
            go_simp
            exact ⟨rfl,Below.refl _ _⟩
          · injection ho with ho;subst ho
            have t22:A.tmps[22]?.getD undef = .pointer (some ⟨g4,4,none⟩):=he 1 (by decide) (by kernel_rfl)
            refine .inl ⟨by kernel_rfl,?_⟩
            go_simp
            exact ⟨rfl,Below.refl _ _⟩
          · injection ho with ho;subst ho
            have t0:A.tmps[0]?.getD undef = .pointer (some ⟨gc,0,none⟩):=hk 0 (by rfl)
            refine .inl ⟨by kernel_rfl,?_⟩
            go_simp
            exact ⟨rfl,Below.refl _ _⟩
          · injection ho with ho;subst ho
            have t4:A.tmps[4]?.getD undef = .pointer (some ⟨g4,0,none⟩):=hk 4 (by rfl)
            refine .inl ⟨by kernel_rfl,?_⟩
            go_simp
            exact ⟨rfl,Below.refl _ _⟩
          · injection ho with ho;subst ho
            have t25:A.tmps[25]?.getD undef = .pointer (some ⟨g4,6,none⟩):=he 4 (by decide) (by kernel_rfl)
            refine .inl ⟨by kernel_rfl,?_⟩
            go_simp
            exact ⟨rfl,Below.refl _ _⟩
          · injection ho with ho;subst ho
            have t7:A.tmps[7]?.getD undef = .int .i64 q.2:=hk 7 (by rfl)
            refine .inl ⟨by kernel_rfl,?_⟩
            go_simp
            exact ⟨rfl,Below.refl _ _⟩
          · injection ho with ho;subst ho
            have t2:A.tmps[2]?.getD undef = .int .i64 dst:=hk 2 (by rfl)
            refine .inl ⟨by kernel_rfl,?_⟩
            go_simp
            exact ⟨rfl,Below.refl _ _⟩
        · intro o' ho A W hW hk he
          injection ho with ho;subst ho
          have t24:A.tmps[24]?.getD undef = .pointer (some ⟨gc,0,none⟩):=he 3 (by decide) (by kernel_rfl)
          have t26:A.tmps[26]?.getD undef = .slice pt t.len ct:=he 5 (by decide) (by kernel_rfl)
          have t27:A.tmps[27]?.getD undef = .int .i64 q.2:=he 6 (by decide) (by kernel_rfl)
          refine ⟨by kernel_rfl,?_⟩
          have HS:=Lib.hid (HT.out q.1 q.2 _ W (HCk.out.grown hW) HM.out.t (by have:=HBk.out;omega) HBk.out.2)
          go_simp
          refine HS.out.mono ?_
          rintro e' w2 ⟨rfl,h2,h3⟩
          exact .inl ⟨_,rfl,⟨rfl,h2⟩,h3⟩
        · intro xs W hW hv
          obtain ⟨x28,hC5⟩:xs 7 = .int .i64 (blockF locs times t q.1 q.2).2/\CodAt w0 n₀ gc bc bm locs times (blockF locs times t q.1 q.2).1 W:=hv 7 (by decide)
          have x21:xs 0 = .pointer (some ⟨gc,0,none⟩):=hv 0 (by decide)
          have x23:xs 2 = .pointer pa:=hv 2 (by decide)
          have x29:xs 8 = .int .i64 dst:=hv 8 (by decide)
          have HC5:=Lib.hid hC5
          have HT5:=Lib.hid (HTk.out.trans hW)
          have HX5:=Lib.hid (hW.sits (by decide) HXk.out)
          simp only [List.length_cons,List.length_nil,Nat.zero_add,Nat.reduceAdd,List.drop_succ_cons,List.drop_zero,Flow.putL,Act.put,List.setIfInBounds_toArray,List.set_cons_zero,List.set_cons_succ,x21,x23,x28,x29]
          clear hv hW hC5 x21 x23 x28 x29 HCk HXk HTk
          have HRF:Hid (roundF (blockF locs times t) m.a dst q=(putF (blockF locs times t q.1 q.2).1 (branchI m.a (blockF locs times t q.1 q.2).2 dst),lenI (blockF locs times t q.1 q.2).1)):=Lib.hid rfl
          generalize (blockF locs times t q.1 q.2).2=th at HRF ⊢
          generalize (blockF locs times t q.1 q.2).1=c5 at HRF HC5
          have HBR:=Lib.hid (branch_any HC5.out m.a th dst (.pointer pa) (HC5.out.tree HM.out.a))
          have HQ5:Hid (0<=lenI c5/\lenI c5<=32):=Lib.hid (lenI_bound HC5.out.few)
          go_wp2_with fail
          refine HBR.out.mono ?_
          rintro e' w5 ⟨rfl,h2,h3⟩
          have HC6:=Lib.hid h2
          have HT6:=Lib.hid (HT5.out.trans h3)
          have HX6:=Lib.hid (h3.sits (by decide) HX5.out)
          clear h2 h3 HBR HC5 HT5 HX5
          go_wp2_with fail
          go_roundg (times - (k+1))
          case measure=>have:=HKL.out;omega
          case rel=>exact ⟨k+1,HKL.out,rfl,by rw [HSUC.out,HRF.out],by go_num,Lib.hid (by rw [HSUC.out,HRF.out];exact HC6.out),Lib.hid (by rw [HSUC.out,HRF.out];exact HQ5.out),HT6,HX6⟩
      · obtain rfl:k=times:=by omega
        have k1:¬ ((k:Int)<(k:Int)):=by omega
        clear hlt hk
        go_wp2_with fail
        go_ret
        rw [HQ0.out]
        exact ⟨rfl,HCk.out,(Turn.of_below HLW.out).trans HTk.out⟩
end
end Go.Proofs.YtagebkachdmnbaaGreatDoor.Unr
end
