/- Part 35 of the proof: what is used of the texts ChkJ, ChkL, ChkM, ChkR. -/
import Derived.Test.YtagebkachdmnbaaGreatDoorMB6
import Derived.RangeFuncNested
import Derived.RangeFuncBound
import Derived.RangeFuncCalls
import Derived.RangeFuncLeaves
import Derived.Shelf.Abstract
import Derived.Shelf.RegionOpen
import Derived.WalkKit
import Derived.OwnWalkIn
import Derived.TacticsInMore
import Derived.LoopNIn
import Derived.LoopIn
import Derived.Test.YtagebkachdmnbaaGreatDoorMD2
import Derived.Test.YtagebkachdmnbaaGreatDoorMB4
import Derived.KernelRfl
import Derived.Test.YtagebkachdmnbaaGreatDoorMD3
import Derived.Test.YtagebkachdmnbaaGreatDoorMB5
section
namespace Go.Proofs.YtagebkachdmnbaaGreatDoor.Chk
open Go.RowKit Go.Proofs.YtagebkachdmnbaaGreatDoor.Mem Go.Proofs.YtagebkachdmnbaaGreatDoor.Expr Go.Proofs.YtagebkachdmnbaaGreatDoor.Prog Go.Lib
structure Boxed (w0:World) (t:Ts) (g:Nat) (pi:Option Addr) (ci:Nat) (pt:Option Addr) (ct:Nat) (pa:Option Addr) (W:World):Prop where
  small:t.small
  low:Below w0.heap.size w0 W
  kind:KindAt w0
  v:TestV w0 t (.slice pi t.init.length ci) (.slice pt t.threads.length ct) (.pointer pa)
  box:Sits W g 40 #[.slice pi t.init.length ci,.slice pt t.threads.length ct,.bool t.all,.pointer pa]
theorem Boxed.below {w0 W W':World} {t:Ts} {g ci ct:Nat} {pi pt pa:Option Addr} (h:Boxed w0 t g pi ci pt ct pa W) (hb:Below W.heap.size W W'):Boxed w0 t g pi ci pt ct pa W' :=
  ⟨h.small,h.low.trans (hb.mono h.low.size),h.kind,h.v,h.box.below hb h.box.lt⟩
section
variable {w0 W : World} {t : Ts} {g ci ct : Nat} {pi pt pa : Option Addr}
theorem dec_lt4 (n:Nat):decide ((4:Int)<(n:Int))=decide (4<n):=by
  by_cases h:4<n
  · rw [decide_eq_true h,decide_eq_true (show (4:Int)<(n:Int) by omega)]
  · rw [decide_eq_false h,decide_eq_false (show ¬ (4:Int)<(n:Int) by omega)]
set_option maxRecDepth 100000 in
theorem ck1 (h:Boxed w0 t g pi ci pt ct pa W):Calls Tryz.prog 78 #[.pointer (some ⟨g,0,none⟩)] W (Made (.returned (.bool (decide (t.threads.length=0)))) W):=by
  have q1:=h.box.cell 1
  have lg:=h.box.lt
  rw [<- int_dec0]
  have m1:(t.threads.length:Int)<=1000:=by have:=h.small.threads;omega
  generalize t.threads.length=n at *
  clear h
  go_enter Tryz.func78,Tryz.ntmps78
  go_wp2_with fail
  go_ret
  exact ⟨rfl,Below.refl _ _⟩
set_option maxRecDepth 100000 in
theorem ck2 (h:Boxed w0 t g pi ci pt ct pa W):Calls Tryz.prog 79 #[.pointer (some ⟨g,0,none⟩)] W (Made (.returned (.bool (!stsMay t.threads true))) W):=by
  have q1:=h.box.cell 1
  have lg:=h.box.lt
  have HS:=Lib.hid (stsMay_any t.threads _ W h.small.threads (fun b hb=>(h.small.fine b hb).1) (h.kind.below h.low) (h.v.threads.below h.low))
  generalize stsMay t.threads true=r at HS ⊢
  clear h
  go_enter Tryz.func79,Tryz.ntmps79
  go_wp2_with fail
  refine HS.out.mono ?_
  rintro e w1 ⟨rfl,hb⟩
  have HB:=Lib.hid hb
  clear hb
  go_wp2_with fail
  go_ret
  exact ⟨rfl,HB.out⟩
set_option maxRecDepth 100000 in
theorem ck3 (h:Boxed w0 t g pi ci pt ct pa W):Calls Tryz.prog 81 #[.pointer (some ⟨g,0,none⟩)] W (Made (.returned (.bool (!startsF t.init noLet))) W):=by
  have q1:=h.box.cell 0
  have lg:=h.box.lt
  have HS:=Lib.hid (starts_any t.init _ W h.small.init (h.v.init.below h.low))
  generalize startsF t.init noLet=r at HS ⊢
  clear h
  go_enter Tryz.func81,Tryz.ntmps81
  go_wp2_with fail
  refine HS.out.mono ?_
  rintro e w1 ⟨rfl,hb⟩
  have HB:=Lib.hid hb
  clear hb
  go_wp2_with fail
  go_ret
  exact ⟨rfl,HB.out⟩
set_option maxRecDepth 100000 in
theorem ck4 (h:Boxed w0 t g pi ci pt ct pa W):Calls Tryz.prog 83 #[.pointer (some ⟨g,0,none⟩)] W (Made (.returned (.bool (!exMay [0,2,3] t.ask))) W):=by
  have q1:=h.box.cell 3
  have lg:=h.box.lt
  have hb1:Below W.heap.size W (W.alloc (.cells #[.int .u8 0,.int .u8 2,.int .u8 3] 5)):=(Below.refl _ W).alloc (Nat.le_refl _) _
  have HS:=Lib.hid (exMay_any t.ask h.small.ask [0,2,3] (by decide) (.pointer pa) (.slice (some ⟨W.heap.size,0,none⟩) 3 3) (W.alloc (.cells #[.int .u8 0,.int .u8 2,.int .u8 3] 5)) ((h.v.ask.below h.low).below hb1) (.inr ⟨_,rfl,Sits.new _ _ _⟩))
  have HB1:=Lib.hid hb1
  generalize exMay [0,2,3] t.ask=r at HS ⊢
  clear h hb1
  go_enter Tryz.func83,Tryz.ntmps83
  go_wp2_with fail
  refine HS.out.mono ?_
  rintro e w1 ⟨rfl,hb⟩
  have HB:=Lib.hid (HB1.out.trans (hb.mono HB1.out.size))
  clear hb
  go_wp2_with fail
  go_ret
  exact ⟨rfl,HB.out⟩
set_option maxRecDepth 100000 in
theorem ck5 (h:Boxed w0 t g pi ci pt ct pa W):Calls Tryz.prog 85 #[.pointer (some ⟨g,0,none⟩)] W (Made (.returned (.bool (decide (4<t.threads.length)))) W):=by
  have q1:=h.box.cell 1
  have lg:=h.box.lt
  rw [<- dec_lt4]
  have m1:(t.threads.length:Int)<=1000:=by have:=h.small.threads;omega
  generalize t.threads.length=n at *
  clear h
  go_enter Tryz.func85,Tryz.ntmps85
  go_wp2_with fail
  go_ret
  exact ⟨rfl,Below.refl _ _⟩
set_option maxRecDepth 100000 in
theorem ck6 (h:Boxed w0 t g pi ci pt ct pa W):Calls Tryz.prog 86 #[.pointer (some ⟨g,0,none⟩)] W (Made (.returned (.bool (t.threads.any (fun b=>decide (8<b.deep))))) W):=by
  have q1:=h.box.cell 1
  have lg:=h.box.lt
  have HS:=Lib.hid (anyDeep_any t.threads _ W h.small.threads (h.v.threads.below h.low))
  generalize t.threads.any (fun b=>decide (8<b.deep))=r at HS ⊢
  clear h
  go_enter Tryz.func86,Tryz.ntmps86
  go_wp2_with fail
  refine HS.out.mono ?_
  rintro e w1 ⟨rfl,hb⟩
  have HB:=Lib.hid hb
  clear hb
  go_wp2_with fail
  go_ret
  exact ⟨rfl,HB.out⟩
set_option maxRecDepth 100000 in
theorem ck7 (h:Boxed w0 t g pi ci pt ct pa W):Calls Tryz.prog 89 #[.pointer (some ⟨g,0,none⟩)] W (Made (.returned (.bool (decide (4<(locsF t).length)))) W):=by
  have q0:=h.box.cell 0
  have q1:=h.box.cell 1
  have q2:=h.box.cell 2
  have q3:=h.box.cell 3
  have lg:=h.box.lt
  have HS:=Lib.hid (locations_any t h.small _ _ _ W (h.v.below h.low))
  rw [<- dec_lt4]
  have m1:((locsF t).length:Int)<=26:=by
    have:=preL_len (namedL t) 26
    have e:locsF t=preL (namedL t) 26:=rfl
    rw [e];omega
  have hz:(str (locsF t)).size=(locsF t).length:=by simp [str,ByteArray.size]
  generalize (locsF t).length=n at hz m1 ⊢
  generalize str (locsF t)=s at HS hz
  simp only [testAgg] at HS
  clear h
  go_enter Tryz.func89,Tryz.ntmps89
  go_wp2_with fail
  refine HS.out.mono ?_
  rintro e w1 ⟨rfl,hb⟩
  have HB:=Lib.hid hb
  clear hb
  go_wp2_with fail
  go_ret
  exact ⟨by rw [<- hz];rfl,HB.out⟩
set_option maxRecDepth 100000 in
theorem ck8 (h:Boxed w0 t g pi ci pt ct pa W):Calls Tryz.prog 91 #[.pointer (some ⟨g,0,none⟩)] W (Made (.returned (.bool (nobodyF t))) W):=by
  have q0:=h.box.cell 0
  have q1:=h.box.cell 1
  have q2:=h.box.cell 2
  have q3:=h.box.cell 3
  have lg:=h.box.lt
  have HS:=Lib.hid (nobody_any t h.small _ _ _ W (h.v.below h.low))
  generalize nobodyF t=r at HS ⊢
  simp only [testAgg] at HS
  clear h
  go_enter Tryz.func91,Tryz.ntmps91
  go_wp2_with fail
  refine HS.out.mono ?_
  rintro e w1 ⟨rfl,hb⟩
  have HB:=Lib.hid hb
  clear hb
  go_wp2_with fail
  go_ret
  exact ⟨rfl,HB.out⟩
end
end Go.Proofs.YtagebkachdmnbaaGreatDoor.Chk
end
section
namespace Go.Proofs.YtagebkachdmnbaaGreatDoor.Chk
open Go.RowKit Go.Shelf Go.Proofs.YtagebkachdmnbaaGreatDoor.Mem Go.Proofs.YtagebkachdmnbaaGreatDoor.Expr Go.Proofs.YtagebkachdmnbaaGreatDoor.Prog
attribute [local go_sem] Oper.semAt_some
abbrev encJ (x:Int × (Nat × Nat)):Array Value:=#[.int .i64 x.1,.agg #[.int .u8 x.2.1,.int .u64 x.2.2]]
theorem rev_at {α:Type} {l:List α} {k t:Nat} {x:α} (h:k<l.length) (ht:t=l.length - 1 - k) (hx:l[t]? = some x):l.reverse.take (k+1)=l.reverse.take k ++ [x]:=by
  rw [List.take_add_one,List.getElem?_reverse h,<- ht,hx];rfl
abbrev RJ:={ q:Int × (Nat × Nat) // q.2.1<256 }
abbrev encR (x:RJ):Array Value:=encJ x.1
def KeepX (gk n₀:Nat) (A B:World):Prop:=Keeps (fun x=>x=gk \/ n₀<=x) A B
theorem KeepX.trans {gk n₀:Nat} {A B C:World} (h:KeepX gk n₀ A B) (k:KeepX gk n₀ B C):KeepX gk n₀ A C:=Keeps.trans h k
theorem KeepX.cell {gk n₀:Nat} {A B:World} (h:KeepX gk n₀ A B) {g i:Nat} {u:Value} (hc:A.cell? ⟨g,i,none⟩=some u) (h1:g≠gk) (h2:g<n₀):B.cell? ⟨g,i,none⟩=some u:=by
  rw [World.cell?_of_block (Keeps.block h g (World.block_lt_of_cell? A _ hc) (fun e=>by rcases e with e | e <;> omega))];exact hc
def InitsAt (W:World) (gk n₀:Nat) (p:Option Addr) (xs:List (Nat × Nat)):Prop:=∀ (k:Nat) (x:Nat × Nat),xs[k]? = some x->∃ g o,p=some ⟨g,o,none⟩/\g≠gk/\g<n₀/\W.cell? ⟨g,o+k * 2,none⟩=some (.int .u8 x.1)/\W.cell? ⟨g,o+k * 2+1,none⟩=some (.int .u64 x.2)
set_option maxRecDepth 100000 in
set_option maxHeartbeats 2000000 in
theorem backJ1_in (F:Fence) (n:Nat) (hf:F.fn 155) (hro:F.round=none) (hn:1<=n) (l Bs gk n₀ c:Nat) (p:Option Addr) (xs:List (Nat × Nat)) (hx:xs.length<=1000) (hL:∀ x ∈ xs,x.1<256) (hBn:Bs<n₀) (hBk:Bs≠gk) (J Jx:List RJ->World->Prop)
    (hY:∀ pre x W,J pre W->pre.length<xs.length->YieldAt F (n - 1) Tryz.prog l (encR x) W fun e W' =>
      (e = .returned (.bool true)/\J (pre ++ [x]) W' /\ KeepX gk n₀ W W') \/ (e = .returned (.bool false)/\Jx (pre ++ [x]) W'))
    (W:World) (hBs:W.cell? ⟨Bs,0,none⟩=some (.slice p xs.length c)) (hc:InitsAt W gk n₀ p xs) (h0:J [] W) :
    CallsIn F n Tryz.prog 155 #[.func (.yield l) #[] #[],.pointer (some ⟨Bs,0,none⟩)] W fun e W'=>(∃ v,e = .returned v) /\
      ((∃ ys:List RJ,ys.map (·.1.2)=xs.reverse/\J ys W') \/ (∃ pre:List RJ,(∃ k,k<=xs.length/\pre.map (·.1.2)=xs.reverse.take k)/\Jx pre W')):=by
  have i1:(xs.length:Int)<=1000:=by omega
  have HC:=Lib.hid hc
  clear hc
  refine callsIn_of_wp Tryz.func155 rfl hf ?_ hro
  simp only [Tryz.ntmps155,List.size_toArray,List.length_cons,List.length_nil,Nat.reduceAdd,Nat.reduceSub,Array.replicate_succ,Array.replicate_zero,List.push_toArray,List.append_toArray,List.nil_append,List.cons_append]
  gi_wp2
  gi_loopw [3] (fun i wr=>∃ (k:Nat) (z:Int) (pre:List RJ),k<=xs.length/\z=(xs.length:Int) - 1 - k/\i = .int .i64 z/\pre.map (·.1.2)=xs.reverse.take k/\J pre wr/\KeepX gk n₀ W wr)
    (fun i _=>(intOf i+1).toNat)
  case atStart=>exact ⟨0,_,[],Nat.zero_le _,by simp,rfl,rfl,h0,Keeps.refl _ _⟩
  case round =>
    obtain ⟨k,z,pre,hk,hz,rfl,hp,hJs,hnx⟩:=hrel
    have hbs:wr.cell? ⟨Bs,0,none⟩=some (.slice p xs.length c):=hnx.cell hBs hBk hBn
    by_cases hlt:k<xs.length
    · obtain ⟨t,ht⟩:∃ t,t=xs.length - 1 - k:=⟨_,rfl⟩
      obtain rfl:z=(t:Nat):=by omega
      have htl:t<xs.length:=by omega
      have hxt:xs[t]? = some xs[t]:=List.getElem?_eq_getElem htl
      have hrev:=rev_at hlt ht hxt
      have hpl:pre.length<xs.length:=by
        have:=congrArg List.length hp
        rw [List.length_map,List.length_take,List.length_reverse] at this;omega
      obtain ⟨g,o,hpp,hgk,hg,c0,c1⟩:=HC.out t _ hxt
      have hLx:=hL _ (List.getElem_mem htl)
      subst hpp
      generalize xs[t]=x at hLx c0 c1 hrev
      obtain ⟨xa,xb⟩:=x
      replace c0:=hnx.cell c0 hgk hg
      replace c1:=hnx.cell c1 hgk hg
      obtain ⟨fn,tmps,assign,body,hy,hR⟩:=hY pre ⟨((t:Int),(xa,xb)),hLx⟩ wr hJs hpl
      dsimp only [encR,encJ] at hy
      have k1:(t:Int)<(xs.length:Int):=by omega
      have k0:(0:Int)<=(t:Int):=by omega
      have HT:=Lib.hid ht
      have HR:=Lib.hid hrev
      have HP:=Lib.hid hp
      have HNX:=Lib.hid hnx
      clear hz ht hrev hp hnx
      gi_wp2
      refine hR.mono ?_
      rintro e W3 (⟨rfl,hJ3,hk3⟩ | ⟨rfl,hJx3⟩)
      · gi_wp2
        go_roundw
        case rel=>exact ⟨k+1,_,pre ++ [⟨((t:Int),(xa,xb)),hLx⟩],by omega,by have:=HT.out;omega,rfl,by rw [List.map_append,HP.out,HR.out];rfl,hJ3,HNX.out.trans hk3⟩
        case measure=>simp [intOf]
      · gi_wp2
        refine bodyPost_ret (results_none rfl _ _ _) rfl ?_
        exact ⟨⟨_,rfl⟩,.inr ⟨_,⟨k+1,by omega,by rw [List.map_append,HP.out,HR.out];rfl⟩,hJx3⟩⟩
    · obtain rfl:k=xs.length:=by omega
      obtain rfl:z = -1:=by omega
      clear hz
      gi_wp2
      go_end0
      exact ⟨⟨_,rfl⟩,.inl ⟨_,by rw [hp,List.take_of_length_le (by simp)],hJs⟩⟩
set_option maxRecDepth 100000 in
theorem backJ_any (p:Option Addr) (n c:Nat) (w:World) :
    Calls Tryz.prog 93 #[.slice p n c] w fun e w'=>e = .returned (.func (.func 155) #[] #[.pointer (some ⟨w.heap.size,0,none⟩)])/\w' = w.alloc (.cells #[.slice p n c] 37):=by
  go_enter Tryz.func93,Tryz.ntmps93
  go_wp2_with fail
  go_ret
  exact ⟨rfl,rfl⟩
theorem backJ1_enters:Expr.Enters 155:=enters_of Tryz.func155 (by kernel_rfl) rfl
def upd (f:Nat->Nat) (x:Nat × Nat):Nat->Nat:=fun i=>if i=x.1 then x.2 else f i
def knF (l:List (Nat × Nat)):Nat->Nat:=l.foldl upd fun _=>0
def knC (f:Nat->Nat):Array Value:=((List.range 256).map fun i=>Value.int .u64 (f i:Nat)).toArray
theorem knC_at (f:Nat->Nat) {i:Nat} (h:i<256):(knC f)[i]? = some (.int .u64 (f i:Nat)):=by simp [knC,h]
theorem knC_put (f:Nat->Nat) (x:Nat × Nat):(knC f).setIfInBounds x.1 (.int .u64 (x.2:Nat))=knC (upd f x):=by
  apply Array.ext
  · simp [knC]
  · intro i h3 h4
    by_cases e:x.1=i
    · subst e;simp [knC,upd]
    · have e':¬ i=x.1:=fun h=>e h.symm
      simp [knC,upd,e,e']
theorem knC_zero:knC (fun _=>0)=Tryz.zeroCells186:=by kernel_rfl
theorem knF_snoc (l:List (Nat × Nat)) (x:Nat × Nat):knF (l ++ [x])=upd (knF l) x:=by simp [knF]
theorem keepX_b {gk n₀:Nat} {w:World} (hn:n₀<=w.heap.size) (W:World) (l:Nat) (o o':Obj) (hl:w.heap.size<=l) (_:W.heap[l]? = some o) (_:o.isCells=false) (_:o.isWalk=false):KeepX gk n₀ W (W.putObj l o') :=
  ⟨rfl,rfl,rfl,by simp [World.putObj],fun b _ hx=>by simp only [World.putObj];exact Array.getElem?_setIfInBounds_ne (fun e=>hx (.inr (by omega)))⟩
theorem sits_from {β:Type} (B g:Nat) (t:TypeId) (f:β->Array Value):OwnFrom B (fun s W=>Sits W g t (f s)):=fun s W W' row hs hg hr =>
  hs.grown hg (fun e=>by
    obtain ⟨_,o,ho,hc⟩:=hr g e
    unfold Sits at hs
    rw [hs] at ho
    injection ho with ho
    subst ho
    simp [Obj.isCells] at hc)
theorem keeps_below {B:Nat} {W W':World} (h:Below W.heap.size W W'):KeepsFrom B W W':=⟨h.size,fun k o _ hk _=>(h.block k (by
  rcases Nat.lt_or_ge k W.heap.size with hlt | hge
  · exact hlt
  · rw [Array.getElem?_eq_none hge] at hk;cases hk)).trans hk⟩
structure StAt (w:World) (tc:Array Value) (f:Nat->Nat) (W:World):Prop where
  test:Sits W w.heap.size 40 tc
  known:Sits W (w.heap.size+1) 186 (knC f)
  low:Below w.heap.size w W
section
variable {w W W' : World} {tc : Array Value} {f : Nat → Nat}
theorem StAt.grown (h:StAt w tc f W) (hb:Below W.heap.size W W'):StAt w tc f W':=⟨h.test.below hb h.test.lt,h.known.below hb h.known.lt,h.low.trans (hb.mono h.low.size)⟩
theorem stAt_from {β:Type} (B:Nat) (hB:w.heap.size<=B) (f:β->Nat->Nat):OwnFrom B (fun s W=>StAt w tc (f s) W):=fun s W W' row hs hg hr =>
  ⟨sits_from B _ _ (fun _:Unit=>tc) () W W' row hs.test hg hr,sits_from B _ _ (fun s=>knC (f s)) s W W' row hs.known hg hr,hs.low.grown hg hs.low.size (fun k e=>by have:=(hr k e).1;omega)⟩
theorem StAt.put (h:StAt w tc f W) (x:Nat × Nat):StAt w tc (upd f x) (W.setCell ⟨w.heap.size+1,x.1,none⟩ (.int .u64 (x.2:Nat))) :=
  ⟨h.test.far (show w.heap.size≠w.heap.size+1 by omega) _,by have:=h.known.put x.1 (.int .u64 (x.2:Nat));rwa [knC_put] at this,h.low.setCell (p:=⟨w.heap.size+1,x.1,none⟩) (by show w.heap.size<=w.heap.size+1;omega) _⟩
theorem StAt.taken (h:StAt w tc f W) {D:Nat} (hD:w.heap.size+2<=D) (o:Obj):StAt w tc f (W.putObj D o) :=
  ⟨(World.putObj_heap_other (by omega)).trans h.test,(World.putObj_heap_other (by omega)).trans h.known,h.low.grown (grownBy_putObj' W D o) h.low.size (fun k e=>by cases e;omega)⟩
end
theorem inits_at {w:World} {p:Option Addr} {c:Nat} {xs:List (Nat × Nat)} (h:Inits w (.slice p xs.length c) xs) {W:World} (hb:Below w.heap.size w W) {gk n₀:Nat} (hg:w.heap.size<=gk) (hn:w.heap.size<=n₀):InitsAt W gk n₀ p xs:=fun k x hx=>by
  obtain ⟨g,o,cap,ev,h0,h1⟩:=h.at hx
  injection ev with ev1 _ _
  have l0:=World.block_lt_of_cell? w _ h0
  have l0:g<w.heap.size:=l0
  exact ⟨g,o,ev1,by omega,by omega,(hb.cell (p:=⟨g,o+k * 2,none⟩) l0).trans h0,(hb.cell (p:=⟨g,o+k * 2+1,none⟩) l0).trans h1⟩
def zerosU (n:Nat):Array Value:=madeCells #[.int .u64 0] n
theorem u64Info:(Tryz.prog.info? 49).map (fun i=>(i.zero,i.size,i.bytes))=some (some (.int .u64 0),1,8):=by kernel_rfl
set_option maxRecDepth 100000 in
theorem madeU (w:World) (n:Nat) (hn:n<=1000):(Instr.makeSlice 27 (.int .i64 (n:Nat)) (.int .i64 (n:Nat))).run Tryz.prog w = .ok (.slice (some ⟨w.heap.size,0,none⟩) n n) (w.alloc (.cells (zerosU n) 49)):=by
  obtain ⟨i0,hi,hz0,hz1,hz2⟩:=info_parts u64Info
  have h:=run_make (P:=Tryz.prog) w 27 49 i0 (.int .u64 0) Tryz.underlying27 hi hz0 .i64 .i64 (n:Nat) (n:Nat) (by omega) (by omega) (by rw [hz2];omega) (by omega)
  rw [hz1] at h
  rw [h]
  have e:zerosU n=madeCells (Value.int .u64 0).cells (Int.toNat (n:Int) * 1):=by
    show madeCells _ n=madeCells _ _
    congr 1
    omega
  rw [e];rfl
theorem zerosU_at (n j:Nat) (hj:j<n):(zerosU n)[j]? = some (.int .u64 0):=by
  unfold zerosU
  rw [<- Array.getElem?_toList,toList_madeCells_one,List.getElem?_replicate,if_pos hj]
def vals (L:List Nat) (i:Nat):Array Value:=((List.range L.length).map fun j=>Value.int .u64 ((if j<i then L.getD j 0 else 0:Nat):Int)).toArray
theorem vals_zero (L:List Nat):vals L 0=zerosU L.length:=by
  apply Array.ext
  · simp [vals,zerosU,madeCells]
  · intro i h1 h2
    have hi:i<L.length:=by simpa [vals] using h1
    have e1:(zerosU L.length)[i]? = some (.int .u64 0):=zerosU_at _ _ hi
    rw [Array.getElem?_eq_getElem h2] at e1
    rw [Option.some.inj e1]
    simp [vals]
theorem vals_at (L:List Nat) {i:Nat} (h:i<L.length):(vals L i)[i]? = some (.int .u64 0):=by simp [vals,h]
theorem vals_put (L:List Nat) {i n:Nat} (h:L[i]? = some n):(vals L i).setIfInBounds i (.int .u64 (n:Nat))=vals L (i+1):=by
  obtain ⟨hl,he⟩:=List.getElem?_eq_some_iff.1 h
  apply Array.ext
  · simp [vals]
  · intro j h1 h2
    by_cases e:i=j
    · subst e;simp [vals,List.getD_eq_getElem?_getD,h]
    · have e2:j<i+1 ↔ j<i:=by omega
      simp [vals,e,e2]
theorem vals_end (L:List Nat) {j n:Nat} (h:L[j]? = some n):(vals L L.length)[j]? = some (.int .u64 (n:Nat)):=by
  obtain ⟨hl,he⟩:=List.getElem?_eq_some_iff.1 h
  simp [vals,hl,he]
set_option maxRecDepth 100000 in
set_option maxHeartbeats 4000000 in
theorem start_any (t:Ts) (ht:t.small) (locs:List UInt8) (hl:locs.length<=1000) (vi vt va:Value) (w:World) (hV:TestV w t vi vt va) :
    Calls Tryz.prog 41 #[testAgg vi vt t.all va,.string (str locs)] w fun e w'=>∃ v,e = .returned v/\URow w' v (locs.map fun c=>knF t.init.reverse c.toNat)/\Below w.heap.size w w':=by
  obtain ⟨pi,ci,rfl⟩:=hV.init.len
  obtain ⟨pt,ct,rfl⟩:=hV.threads.len
  obtain ⟨pa,rfl,_⟩:=hV.ask.ptr
  simp only [testAgg]
  have H0:Hid (StAt w #[.slice pi t.init.length ci,.slice pt t.threads.length ct,.bool t.all,.pointer pa] (knF []) ((w.alloc (.cells #[.slice pi t.init.length ci,.slice pt t.threads.length ct,.bool t.all,.pointer pa] 40)).alloc (.cells Tryz.zeroCells186 186))):=Lib.hid
    ⟨(Sits.new _ _ _).alloc _,by rw [show knC (knF [])=Tryz.zeroCells186 from knC_zero];exact Sits.made (by simp) _ _,((Below.refl _ w).alloc (Nat.le_refl _) _).alloc (by simp) _⟩
  have HI:=Lib.hid hV.init
  have HE:=Lib.hid (fun x hx=>(ht.each x hx).1)
  have HN:=Lib.hid ht.init
  have HLL:=Lib.hid hl
  clear hV ht hl
  refine (callsIn_wide (n:=5)).1 ?_
  refine callsIn_of_wp_marks Tryz.func41 rfl trivial ?_ rfl
  simp only [Tryz.ntmps41,List.size_toArray,List.length_cons,List.length_nil,Nat.reduceAdd,Nat.reduceSub,Array.replicate_succ,Array.replicate_zero,List.push_toArray,List.append_toArray,List.nil_append,List.cons_append]
  refine wpIn_wide.2 ?_
  go_wp2_with fail
  generalize ((w.alloc (.cells #[.slice pi t.init.length ci,.slice pt t.threads.length ct,.bool t.all,.pointer pa] 40)).alloc (.cells Tryz.zeroCells186 186))=w1 at H0 ⊢
  refine (backJ_any _ _ _ _).mono ?_
  rintro e w2 ⟨rfl,rfl⟩
  go_wp2_with fail
  have HB2:=Lib.hid (H0.out.grown ((Below.refl _ w1).alloc (Nat.le_refl _) (.cells #[.slice pi t.init.length ci] 37)))
  have HSB:=Lib.hid (Sits.new w1 37 #[.slice pi t.init.length ci])
  have hsz:w.heap.size+2<(w1.alloc (.cells #[.slice pi t.init.length ci] 37)).heap.size:=by have:=H0.out.known.lt;simp;omega
  have HSZ:=Lib.hid hsz
  have HSBN:=Lib.hid (show w.heap.size+1<w1.heap.size from H0.out.known.lt)
  generalize w1.heap.size=sb at HSB HSBN ⊢
  generalize w1.alloc (.cells #[.slice pi t.init.length ci] 37)=W0 at HB2 HSB HSZ ⊢
  clear hsz H0
  refine (wpIn_wide (n:=5)).1 ?_
  refine wpIn_rangeFunc_ownH (α:=RJ) rfl (by decide) (gf:=155) (lb:=#[.pointer (some ⟨sb,0,none⟩)]) rfl trivial backJ1_enters
    (encs:=encR) (Kp:=KeepX (w.heap.size+1) W0.heap.size) (S:=fun ys=>ys.map (·.1.2)=t.init.reverse) (Sp:=fun pre=>∃ k,k<=t.init.length/\pre.map (·.1.2)=t.init.reverse.take k) (N:=t.init.length) (w0:=W0)
    (fun l Jr Jx W hW _ _ hY h0=>backJ1_in Fence.wide 4 trivial rfl (by decide) l sb (w.heap.size+1) W0.heap.size ci pi t.init HN.out HE.out HSB.out.lt (by have:=HSBN.out;omega) Jr Jx hY W
      ((hW.cell (p:=⟨sb,0,none⟩) HSB.out.lt).trans (HSB.out.cell 0)) (inits_at HI.out (HB2.out.low.trans (hW.mono HB2.out.low.size)) (by omega) HB2.out.low.size) h0)
    KeepX.trans (keepX_b (Nat.le_refl _)) (Below.refl _ _) (fun _=>rfl)
    (fun pre W=>StAt w #[.slice pi t.init.length ci,.slice pt t.threads.length ct,.bool t.all,.pointer pa] (knF (pre.map (·.1.2))) W/\W0.heap.size<=W.heap.size)
    (fun _ _ _=>False)
    (fun s W W' row hs hg hr=>⟨stAt_from W0.heap.size HB2.out.low.size (fun pre:List RJ=>knF (pre.map (·.1.2))) s W W' row hs.1 hg hr,Nat.le_trans hs.2 hg.size⟩)
    (fun q s W W' row hs hg hr=>hs.elim)
    ⟨HB2.out,Nat.le_refl _⟩
    (fun x a' W=>∃ Bx,W0.heap.size<=Bx/\Sits W Bx 126 #[.int .u8 x.1.2.1,.int .u64 x.1.2.2]/\a' = { tmps:=#[.agg #[.slice pi t.init.length ci,.slice pt t.threads.length ct,.bool t.all,.pointer pa],.string (str locs),.pointer (some ⟨w.heap.size,0,none⟩),undef,.slice none 0 0,.pointer (some ⟨w.heap.size+1,0,none⟩),undef,.pointer (some ⟨Bx,0,none⟩),undef,undef,.pointer (some ⟨w.heap.size,0,none⟩),.slice pi t.init.length ci,.func (.func 155) #[] #[.pointer (some ⟨sb,0,none⟩)],.int .i64 x.1.1,.agg #[.int .u8 x.1.2.1,.int .u64 x.1.2.2],undef,undef,undef,undef,undef,undef,undef,undef,undef,undef,undef,undef,undef,undef,undef,undef,undef,undef,undef,undef,undef,undef,undef],defers:=[] })
    (fun x a' _ X Y row hs hg hr=>by obtain ⟨Bx,h1,h2,h3⟩:=hs;exact ⟨Bx,h1,sits_from W0.heap.size Bx _ (fun _:Unit=>#[.int .u8 x.1.2.1,.int .u64 x.1.2.2]) () X Y row h2 hg hr,h3⟩)
    ?assign ?body ?done ?stop
  case assign =>
    rintro l pre x W K ⟨hA,hz⟩ hK
    gi_wp2
    exact hK _ _ (keeps_below ((Below.refl _ W).alloc (Nat.le_refl _) _)) (Keeps.of_below ((Below.refl _ W).alloc (Nat.le_refl _) _)) ⟨hA.grown ((Below.refl _ W).alloc (Nat.le_refl _) _),by simp;omega⟩ ⟨W.heap.size,hz,Sits.new _ _ _,rfl⟩
  case body =>
    rintro l pre x a' W hlw ⟨r,hr⟩ ⟨hA,hz⟩ ⟨Bx,hBx,hSx,rfl⟩ hlt
    obtain ⟨⟨q,xa,xb⟩,hx⟩:=x
    dsimp only at hx hSx ⊢
    have c0:W.cell? ⟨Bx,0,none⟩=some (.int .u8 (xa:Nat)):=hSx.cell 0
    have c1:W.cell? ⟨Bx,1,none⟩=some (.int .u64 (xb:Nat)):=hSx.cell 1
    have lx:=hSx.lt
    have k0:W.cell? ⟨w.heap.size+1,xa,none⟩=some (.int .u64 (knF (pre.map (·.1.2)) xa:Nat)):=(hA.known.cell xa).trans (knC_at _ hx)
    have f0:=hA.known.free xa
    have lk:=hA.known.lt
    have i1:(xa:Int)<256:=by omega
    have i0:(0:Int)<=(xa:Int):=by omega
    have HP:=Lib.hid (hA.put (xa,xb))
    have HS0:=Lib.hid hz
    have HK:=Lib.hid (show KeepX (w.heap.size+1) W0.heap.size W (W.setCell ⟨w.heap.size+1,xa,none⟩ (.int .u64 (xb:Nat))) from (Keeps.refl _ W).put (p:=⟨w.heap.size+1,xa,none⟩) (.inl (.inl rfl)) _)
    have HSN:=Lib.hid (show knF ((pre ++ [(⟨(q,(xa,xb)),hx⟩:RJ)]).map (·.1.2))=upd (knF (pre.map (·.1.2))) (xa,xb) by rw [List.map_append,List.map_singleton,knF_snoc])
    clear hA hSx hz hr
    gi_wp2
    exact ⟨(KeepsOthers.setCell _ _ _).from _,HK.out,by rw [HSN.out];exact HP.out,by simpa [World.setCell] using HS0.out⟩
  case stop =>
    rintro D q pre W hD _ hF
    exact hF.elim
  case done =>
    rintro D ys W hD hS ⟨hA,hz⟩ hK
    rw [hS] at hA
    have HA:=Lib.hid hA
    have HD:=Lib.hid (show w.heap.size+2<=D by have:=HSZ.out;omega)
    have HK:=Lib.hid hK
    have HLL2:(locs.length:Int)<=1000:=by have:=HLL.out;omega
    have hsl:(str locs).size=locs.length:=by simp [str,ByteArray.size]
    clear hA hS hz hK hD
    have hmk:=fun W=>madeU W locs.length HLL.out
    have HSX:=Lib.hid (show ∀ (i:Nat) (c:UInt8),locs[i]? = some c->(str locs).data[i]? = some c from fun i c h=>by simpa [str] using h)
    generalize str locs=S at hsl HSX ⊢
    have HV0:=Lib.hid (show Sits (W.alloc (.cells (zerosU locs.length) 49)) W.heap.size 49 (vals (locs.map fun c=>knF t.init.reverse c.toNat) 0) from by rw [vals_zero,List.length_map];exact Sits.new _ _ _)
    have HA0:=Lib.hid (HA.out.grown ((Below.refl _ W).alloc (Nat.le_refl _) (.cells (zerosU locs.length) 49)))
    have HK0:=Lib.hid (show (W.alloc (.cells (zerosU locs.length) 49)).heap[D]? = some (.deferred (some [])) from (Below.heap_alloc W _ D (Array.getElem?_eq_some_iff.1 HK.out).1).trans HK.out)
    have HDV:=Lib.hid (show D<W.heap.size from (Array.getElem?_eq_some_iff.1 HK.out).1)
    have HGV:=Lib.hid (show w.heap.size+1<W.heap.size from HA.out.known.lt)
    go_wp2_with fail
    generalize W.alloc (.cells (zerosU locs.length) 49)=W1 at HV0 HA0 HK0 ⊢
    generalize W.heap.size=gv at HV0 HDV HGV ⊢
    go_loopg [25] locs.length (fun gg v25 wx=>∃ i,i<=locs.length/\gg=locs.length - i/\v25 = .int .i64 (i:Nat)/\Hid (Sits wx gv 49 (vals (locs.map fun c=>knF t.init.reverse c.toNat) i))/\Hid (StAt w #[.slice pi t.init.length ci,.slice pt t.threads.length ct,.bool t.all,.pointer pa] (knF t.init.reverse) wx)/\Hid (wx.heap[D]? = some (.deferred (some []))))
    case atStart=>exact ⟨0,by omega,by omega,rfl,HV0,HA0,HK0⟩
    case round =>
      obtain ⟨i,hi,rfl,rfl,HV,HA,HK⟩:=hrel
      by_cases hlt:i<locs.length
      · have hc:locs[i]? = some locs[i]:=List.getElem?_eq_getElem hlt
        generalize locs[i]=c at hc
        have c256:c.toNat<256:=c.toNat_lt
        have k0:wr.cell? ⟨w.heap.size+1,c.toNat,none⟩=some (.int .u64 (knF t.init.reverse c.toNat:Nat)):=(HA.out.known.cell c.toNat).trans (knC_at _ c256)
        have lk:=HA.out.known.lt
        have v0:wr.cell? ⟨gv,i,none⟩=some (.int .u64 0):=(HV.out.cell i).trans (vals_at _ (by simpa using hlt))
        have f0:=HV.out.free i
        have lv:=HV.out.lt
        have hbd:i<S.size:=by omega
        have hd:S[i]'hbd=c:=by
          have:=HSX.out i c hc
          rw [Array.getElem?_eq_getElem (by exact hbd)] at this
          exact Option.some.inj this
        have m256:(c.toNat:Int)<256:=by omega
        have HI:=Lib.hid hlt
        have HVP:=Lib.hid (vals_put (locs.map fun c=>knF t.init.reverse c.toNat) (i:=i) (n:=knF t.init.reverse c.toNat) (by rw [List.getElem?_map,hc];rfl))
        have HAN:=Lib.hid (show StAt w #[.slice pi t.init.length ci,.slice pt t.threads.length ct,.bool t.all,.pointer pa] (knF t.init.reverse) (wr.setCell ⟨gv,i,none⟩ (.int .u64 (knF t.init.reverse c.toNat:Nat))) from ⟨HA.out.test.far (show w.heap.size≠gv by have:=HGV.out;omega) _,HA.out.known.far (show w.heap.size+1≠gv by have:=HGV.out;omega) _,HA.out.low.setCell (p:=⟨gv,i,none⟩) (by have:=HGV.out;show w.heap.size<=gv;omega) _⟩)
        have HVN:=Lib.hid (HV.out.put i (.int .u64 (knF t.init.reverse c.toNat:Nat)))
        have HKN:=Lib.hid ((Below.heap_setCell wr ⟨gv,i,none⟩ (.int .u64 (knF t.init.reverse c.toNat:Nat)) D (by show D≠gv;have:=HDV.out;omega)).trans HK.out)
        clear hc hlt hi
        have i1:(i:Int)<(locs.length:Int):=by omega
        have i2:(0:Int)<=(i:Int):=by omega
        go_wp2_with fail
        go_roundg (locs.length - (i+1))
        case measure=>have:=HI.out;omega
        case rel=>exact ⟨i+1,HI.out,rfl,by go_num,Lib.hid (by rw [<- HVP.out];exact HVN.out),HAN,HKN⟩
      · obtain rfl:i=locs.length:=by omega
        have HF:=Lib.hid (show URow (wr.putObj D (.deferred none)) (.slice (some ⟨gv,0,none⟩) locs.length locs.length) (locs.map fun c=>knF t.init.reverse c.toNat)/\Below w.heap.size w (wr.putObj D (.deferred none)) from
          ⟨.inr ⟨gv,0,locs.length,by rw [List.length_map],by rw [List.length_map];have:=HLL.out;omega,fun j a hj=>by
            rw [Nat.zero_add,World.cell?_of_block (World.putObj_heap_other (by have:=HDV.out;show gv≠D;omega))]
            have:=HV.out.cell j
            rw [this]
            have e:=vals_end _ hj
            rwa [List.length_map] at e⟩,(HA.out.taken HD.out _).low⟩)
        have HKD:=Lib.hid HK.out
        clear hlt hi HV HA HK
        go_wp2_with fail
        refine ⟨by simp,.inl ⟨_,_,rfl,run_takeDeferred HKD.out,?_⟩⟩
        exact ⟨.slice (some ⟨gv,0,none⟩) locs.length locs.length,by simp [results,Tryz.results41,go_sem],⟨_,rfl,HF.out.1,HF.out.2⟩⟩
end Go.Proofs.YtagebkachdmnbaaGreatDoor.Chk
end
section
namespace Go.Proofs.YtagebkachdmnbaaGreatDoor.Chk
open Go.Proofs.YtagebkachdmnbaaGreatDoor.Expr Go.Proofs.YtagebkachdmnbaaGreatDoor.Prog Go.Proofs.YtagebkachdmnbaaGreatDoor.Prs
open Go.Proofs.YtagebkachdmnbaaGreatDoor.Lex (Tok)
theorem known_all {s:List UInt8} {ts:List Lex.Tok} {t:Ts} (hl:Lex.lexAll s = .ok ts) (hr:ts.map raw=rawsT t) (hp:Prints t):parseAll s = .ok t:=by
  obtain ⟨k,h⟩:=tx_inits_at hp t.init [] 0 rfl (fun i hi=>⟨hp.proper.init i hi,(hp.init i hi).1⟩) (at_raws hr)
  exact parseAll_ok hl (txOut_is h)
theorem plain_fine:∀ {b:Blk},b.proper->plainB b->b.fine:=by
  intro b
  induction b with
  | nil=>intro _ _;trivial
  | cons m t e r iht ihe ihr =>
    rintro ⟨h1,h2,h3,h4,h5,h6⟩ ⟨p1,p2,p3,p4⟩
    have hm:=h1.2.2
    have hloc:m.loc<256/\m.mode<256/\m.kind<256:=by
      unfold isLetter at hm
      split at hm <;> first | exact hm.elim | (rename_i hk;omega)
    exact ⟨h1.1,h1.2.1,by have:=p1.reg;omega,hloc.2.1,hloc.1,hloc.2.2,iht h2 p2,ihe h3 p3,ihr h4 p4⟩
theorem read_small {t:Ts} (h:Prs.Read t):t.small where
  init:=h.init
  each:=fun i hi=>⟨by have:=(h.prints.proper.init i hi).2;omega,(h.prints.init i hi).2⟩
  threads:=by have:=h.prints.few;omega
  fine:=fun b hb=>⟨plain_fine (h.prints.proper.threads b hb).1 (h.prints.threads b hb),by have:=h.each b hb;omega⟩
  ask:=h.prints.proper.ask
end Go.Proofs.YtagebkachdmnbaaGreatDoor.Chk
end
section
namespace Go.Proofs.YtagebkachdmnbaaGreatDoor.Chk
open Go.RowKit Go.ChangeShapes Go.WideShapes Go.ChangeAt Go.Proofs.YtagebkachdmnbaaGreatDoor.Card
section
variable {H : Type} {enc : TypeId × Value → H} {P : Program} {w : World} {base : Nat} {sp : Nat → Bool} {held : Bool}
theorem bools_of_struct {fuel:Nat} {t:TypeId} {fs:Array Field} {cs:List Value} {zs:List Bool} {p:List MemPlace} (ht:P.underlying t=some (.struct fs))
    (hf:∀ (i:Nat) (f:Field),fs[i]? = some f->P.underlying f.type=some .bool/\f.offset=i/\P.cellsOf f.type=1) (hct:P.cellsOf t=fs.size)
    (h:DataW.trod enc P w base sp held fuel t cs=some (.agg (zs.map fun z => .lit (.bool z)),p)):cs=zs.map fun z=>Value.bool z:=by
  obtain ⟨xs,n,rfl,hx,hl,hxl,hall⟩:=DataW.trod_struct ht h
  have hxs:xs.map (·.1)=zs.map fun z=>(DataW.lit (.bool z):DataW H):=by
    have:=congrArg Prod.fst hx
    simpa using this.symm
  have hzl:zs.length=fs.size:=by
    have:=congrArg List.length hxs
    simp at this
    omega
  apply List.ext_getElem?
  intro i
  by_cases hi:i<fs.size
  · obtain ⟨hu,ho,hc⟩:=hf i fs[i] (by simp [hi])
    have h1:=hall i fs[i] (by simp [hi])
    obtain ⟨b,hb⟩:∃ b,xs[i]? = some b:=⟨xs[i]'(by omega),List.getElem?_eq_getElem (by omega)⟩
    rw [hb,ho,hc] at h1
    obtain ⟨z,hcz,rfl⟩:=DataW.trod_bool hu h1
    have h2:cs[i]? = some (.bool z):=by
      have:=congrArg (·[0]?) hcz
      simpa [List.getElem?_take,List.getElem?_drop] using this
    have h3:(xs.map (·.1))[i]? = some (DataW.lit (.bool z):DataW H):=by simp [hb]
    rw [hxs] at h3
    simp only [List.getElem?_map,Option.map_eq_some_iff,DataW.lit.injEq,Lit.bool.injEq] at h3
    obtain ⟨z',hz',rfl⟩:=h3
    simp [h2,hz']
  · rw [List.getElem?_eq_none (by omega),List.getElem?_eq_none (by simp;omega)]
end
def kindData:DataW Unit:=.agg ((List.range 10).map fun k => .agg ((hasL k).map fun b => .lit (.bool b)))
theorem gKind : Tryz.prog.globalNamed "troth/check.kinds" = some 0 := by kernel_rfl
theorem gKindType:(Tryz.prog.globals[0]?).map (·.type)=some 313:=by kernel_rfl
theorem kindAt_of {W : World} (h : Lib.VarReads Tryz.prog W "troth/check.kinds" kindData) : KindAt W := by
  obtain ⟨g',t',cs,fuel,p,hg',ht',hvar,hd⟩:=h
  obtain rfl:=Option.some.inj (gKind.symm.trans hg')
  obtain rfl:=Option.some.inj (gKindType.symm.trans ht')
  have hc:∀ k i:Nat,k<10->i<7->W.cell? ⟨0,k * 7+i,none⟩=some (.bool (has k i)):=by
    intro k i hk hi
    obtain ⟨f2,d,q,hdk,hr⟩:=Lib.array_elem Tryz.underlying313 hd k hk
    have hdk':d = .agg ((hasL k).map fun b => .lit (.bool b)):=by
      simp only [List.getElem?_map,List.getElem?_range hk,Option.map_some,Option.some.injEq] at hdk
      exact hdk.symm
    subst hdk'
    rw [show Tryz.prog.cellsOf 312=7 by kernel_rfl] at hr
    have hz:=bools_of_struct Tryz.underlying312 (by
      intro j f hj
      rcases j with _ | _ | _ | _ | _ | _ | _ | j
      all_goals first
        | (cases hj;exact ⟨by kernel_rfl,rfl,by kernel_rfl⟩)
        | (simp at hj)) (by kernel_rfl) hr
    have h2:=World.var?_cell hg' hvar (k * 7+i)
    rw [h2]
    have h3:=congrArg (·[i]?) hz
    have hl:(hasL k).length=7:=by
      rcases k with _ | _ | _ | _ | _ | _ | _ | _ | _ | _ | k
      all_goals rfl
    have h4:(hasL k)[i]? = some (has k i):=by
      unfold has
      rw [List.getD_eq_getElem?_getD,List.getElem?_eq_getElem (by omega)];rfl
    simp only [List.getElem?_take,List.getElem?_drop,List.getElem?_map,h4,if_pos hi,Option.map_some] at h3
    rw [<- Array.getElem?_toList]
    exact h3
  refine ⟨?_,hc⟩
  have h0:=hc 0 0 (by omega) (by omega)
  apply Nat.lt_of_not_le
  intro hle
  have hn:W.heap[0]? = none:=Array.getElem?_eq_none hle
  simp [World.cell?,hn] at h0
def kindCells:Array Value:=((List.range 70).map fun j=>Value.bool (has (j / 7) (j % 7))).toArray
def layKinds:Obj->Obj
  | .cells _ t frozen => .cells kindCells t frozen
  | o=>o
end Go.Proofs.YtagebkachdmnbaaGreatDoor.Chk
end
