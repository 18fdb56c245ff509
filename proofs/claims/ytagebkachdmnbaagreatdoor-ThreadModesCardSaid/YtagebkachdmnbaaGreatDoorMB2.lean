/- Part 13 of the proof: what is used of the texts UnrF. -/
import Derived.Test.YtagebkachdmnbaaGreatDoorMB1
import Derived.ControlIn
import Derived.ScopeJumps
import Derived.Deep.CutBlock
import Derived.Sort.CutIn
section
namespace Go.Proofs.YtagebkachdmnbaaGreatDoor.Unr
open Go.RowKit Go.Shelf Go.Proofs.YtagebkachdmnbaaGreatDoor.Mem Go.Proofs.YtagebkachdmnbaaGreatDoor.Expr Go.Proofs.YtagebkachdmnbaaGreatDoor.Prog Go.Proofs.YtagebkachdmnbaaGreatDoor.Row
attribute [local go_sem] Oper.semAt_some
abbrev Sm:=Mk × Blk × Blk
def Blk.list:Blk->List Sm
  | .nil=>[]
  | .cons m t e r=>(m,t,e) :: Blk.list r
def stepB (locs:List UInt8) (times:Nat) (s:Sm) (q:Cd × Int):Cd × Int:=if q.1.2=true then q else stmtF locs times s.1 s.2.1 s.2.2 q.1 q.2
theorem block_list (locs:List UInt8) (times:Nat):∀ (b:Blk) (c:Cd) (dst:Int),blockF locs times b c dst=(Blk.list b).foldr (stepB locs times) (c,dst)
  | .nil,_,_=>rfl
  | .cons m t e r,c,dst=>by
    rw [block_cons]
    show _=stepB locs times (m,t,e) ((Blk.list r).foldr (stepB locs times) (c,dst))
    rw [<- block_list locs times r c dst]
    rfl
theorem list_len:∀ b:Blk,(Blk.list b).length=b.len
  | .nil=>rfl
  | .cons _ _ _ r=>by show (Blk.list r).length+1=r.len+1;rw [list_len r]
theorem list_at:∀ (b:Blk) (k:Nat),(Blk.list b)[k]? = Blk.at_ b k
  | .nil,_=>rfl
  | .cons _ _ _ _,0=>rfl
  | .cons _ _ _ r,k+1=>by
    show (Blk.list r)[k]? = Blk.at_ r k
    exact list_at r k
theorem list_size {b:Blk} {m:Mk} {t e:Blk} (h:(m,t,e) ∈ Blk.list b):t.size<b.size/\e.size<b.size:=by
  obtain ⟨k,hk⟩:=List.mem_iff_getElem?.1 h
  rw [list_at] at hk
  exact at_size hk
abbrev Rs (w0:World) (b:Blk):={ q:El × Sm // ElOf w0 q.1 q.2.1 q.2.2.1 q.2.2.2/\q.2 ∈ Blk.list b }
theorem stand_rs {w0:World} {b:Blk} {v:Value} (h:Stand any_ w0 b v):∃ (p:Option Addr) (cap:Nat) (xs:List (Rs w0 b)),v = .slice p xs.length cap/\b.len<=1000000/\xs.length=b.len/\xs.map (·.1.2)=Blk.list b /\
    ∀ k x,xs[k]? = some x->∃ g o,p=some ⟨g,o,none⟩/\ElAt w0 g (o+k * 8) x.1.1:=by
  obtain ⟨p,cap,els,hv,hl,hb,hat,hof⟩:=stand_els h
  obtain ⟨xs,hxl,hx⟩:=exists_list (P:=fun k (y:Rs w0 b)=>els[k]? = some y.1.1/\(Blk.list b)[k]? = some y.1.2) b.len (fun k hk=>by
    obtain ⟨m,t,e,hm⟩:=at_some hk
    have he:els[k]? = some (els[k]'(by omega)):=List.getElem?_eq_getElem _
    have hm':(Blk.list b)[k]? = some (m,t,e):=(list_at b k).trans hm
    exact ⟨⟨(els[k]'(by omega),m,t,e),hof k _ m t e he hm,List.mem_of_getElem? hm'⟩,he,hm'⟩)
  refine ⟨p,cap,xs,by rw [hxl,<- hl];exact hv,hb,hxl,?_,fun k x hk=>hat k _ (hx k x hk).1⟩
  apply List.ext_getElem?
  intro k
  by_cases hk:k<b.len
  · have hk':xs[k]? = some (xs[k]'(by omega)):=List.getElem?_eq_getElem _
    rw [List.getElem?_map,hk',(hx k _ hk').2];rfl
  · rw [List.getElem?_eq_none (by simp;omega),List.getElem?_eq_none (by rw [list_len];omega)]
def curF (locs:List UInt8) (times:Nat) (c:Cd) (dst:Int) (l:List Sm):Cd × Int:=l.foldl (fun q s=>stepB locs times s q) (c,dst)
theorem cur_snoc (locs:List UInt8) (times:Nat) (c:Cd) (dst:Int) (l:List Sm) (s:Sm):curF locs times c dst (l ++ [s])=stepB locs times s (curF locs times c dst l):=by unfold curF;rw [List.foldl_append];rfl
theorem cur_all (locs:List UInt8) (times:Nat) (b:Blk) (c:Cd) (dst:Int):curF locs times c dst (Blk.list b).reverse=blockF locs times b c dst:=by rw [block_list];unfold curF;rw [List.foldl_reverse]
theorem cur_full (locs:List UInt8) (times:Nat) (c:Cd) (dst:Int) (l l':List Sm) (h:(curF locs times c dst l).1.2=true):curF locs times c dst (l ++ l')=curF locs times c dst l:=by
  unfold curF at h ⊢
  rw [List.foldl_append]
  generalize l.foldl (fun q s=>stepB locs times s q) (c,dst)=q at h ⊢
  induction l' with
  | nil=>rfl
  | cons s l' ih =>
    rw [List.foldl_cons,show stepB locs times s q=q from by unfold stepB;rw [if_pos h]]
    exact ih
theorem step_keeps (locs:List UInt8) (times:Nat) (s:Sm) {q:Cd × Int} (h:q.1.1.length<=32) (h1:-1<=q.2) (h2:q.2<=32):-1<=(stepB locs times s q).2/\(stepB locs times s q).2<=32:=by
  unfold stepB
  split
  · exact ⟨h1,h2⟩
  · exact (stmt_keeps locs times s.1 s.2.1 s.2.2).tgt q.1 q.2 h h1 h2
structure BkAt (w0:World) (n₀ gc bc bm:Nat) (locs:List UInt8) (times:Nat) (w:World) (q:Cd × Int) (W:World):Prop where
  cod:CodAt w0 n₀ gc bc bm locs times q.1 W
  at3:Sits W w.heap.size 117 #[.pointer (some ⟨gc,0,none⟩)]
  at5:Sits W (w.heap.size+1) 3 #[.int .i64 q.2]
  turn:Turn n₀ w W
  bound:-1<=q.2/\q.2<=32
section
variable {w0 w W W' : World} {n₀ gc bc bm times : Nat} {locs : List UInt8} {q : Cd × Int}
theorem BkAt.grown (h:BkAt w0 n₀ gc bc bm locs times w q W) (hb:Below W.heap.size W W'):BkAt w0 n₀ gc bc bm locs times w q W' :=
  ⟨h.cod.grown hb,h.at3.below hb h.at3.lt,h.at5.below hb h.at5.lt,h.turn.trans (Turn.of_below hb),h.bound⟩
theorem BkAt.walk (h:BkAt w0 n₀ gc bc bm locs times w q W) (hw:w0.heap.size<=w.heap.size) {row:Option Nat} (hg:W.grownBy W' row) (hr:∀ k,row=some k->w.heap.size<=k/\∃ o:Obj,W.heap[k]? = some o/\o.isCells=false):BkAt w0 n₀ gc bc bm locs times w q W':=by
  have far:∀ (g:Nat) (t:TypeId) (cs:Array Value),Sits W g t cs->Sits W' g t cs:=fun g t cs hs=>hs.grown hg fun e=>by
    obtain ⟨_,o,ho,hc⟩:=hr g e
    unfold Sits at hs
    rw [hs] at ho
    injection ho with ho
    subst ho
    simp [Obj.isCells] at hc
  exact ⟨h.cod.walk hg (fun k e=>⟨Nat.le_trans hw (hr k e).1,(hr k e).2⟩),far _ _ _ h.at3,far _ _ _ h.at5,h.turn.walk hg (fun k e=>(hr k e).1),h.bound⟩
theorem CodAt.num {c:Cd} (h:CodAt w0 n₀ gc bc bm locs times c W) {B:Nat} (hB:B≠bm) {cs:Array Value} (hs:Sits W B 3 cs) (hBn:w0.heap.size<=B) (v:Value):CodAt w0 n₀ gc bc bm locs times c (W.setCell ⟨B,0,none⟩ v):=by
  obtain ⟨r,d,css,h1,h2,h3⟩:=h.cod
  have far:∀ (g:Nat) (t:TypeId) (cs:Array Value),Sits W g t cs->g≠B->Sits (W.setCell ⟨B,0,none⟩ v) g t cs:=fun g t cs hg hne=>hg.far (show g≠B from hne) v
  have ne:∀ (g:Nat) (t:TypeId) (cs':Array Value),Sits W g t cs' -> t≠3->g≠B:=fun g t cs' hg ht=>hg.differ hs ht
  exact ⟨⟨h.base.os,h.base.tape,h.base.output,by simpa [World.setCell] using h.base.size,fun k o e hd=>(Below.heap_setCell W ⟨B,0,none⟩ v k (by show k≠B;have:=(Array.getElem?_eq_some_iff.1 e).1;omega)).trans (h.base.same k o e hd)⟩,
    ⟨r,d,css,far _ _ _ h1 (ne _ _ _ h1 (by decide)),cut2_other h2 hs (by decide) 0 v,h3.stable (fun g cs hg=>far g _ cs hg (ne _ _ _ hg (by decide)))⟩,far _ _ _ h.boxc (ne _ _ _ h.boxc (by decide)),far _ _ _ h.boxm (Ne.symm hB),h.few,h.old.1,h.old.2.1,by simpa [World.setCell] using h.old.2.2⟩
theorem BkAt.put (h:BkAt w0 n₀ gc bc bm locs times w q W) (hbm:bm<w.heap.size) (hw:w0.heap.size<=w.heap.size) {q':Cd × Int} (hC:CodAt w0 n₀ gc bc bm locs times q'.1 W') (ht:Turn n₀ W W') (hb:-1<=q'.2/\q'.2<=32) :
    BkAt w0 n₀ gc bc bm locs times w q' (W'.setCell ⟨w.heap.size+1,0,none⟩ (.int .i64 q'.2)):=by
  have h5:=ht.sits (by decide) h.at5
  have ht2:=h.turn.trans ht
  refine ⟨hC.num (by omega) h5 (by omega) _,(ht.sits (by decide) h.at3).far (show w.heap.size≠w.heap.size+1 by omega) _,h5.put 0 _,?_,hb⟩
  exact ⟨ht2.os,ht2.tape,ht2.output,by simpa [World.setCell] using ht2.size,fun k o e hd=>(Below.heap_setCell W' ⟨w.heap.size+1,0,none⟩ _ k (by show k≠w.heap.size+1;have:=(Array.getElem?_eq_some_iff.1 e).1;omega)).trans (ht2.same k o e hd)⟩
end
theorem wp_scope_forward {P:Program} {a:Act} {w:World} {Q:Exit->Act->World->Prop} {c rest:Code} (l:Nat) (hf:findLabel c l=some rest)
    (first:c.wp P (Exit.jump l (fun a' w'=>rest.wp P (Exit.noGoto Q) a' w') Q) a w):(Code.scope c).wp P Q a w :=
  wp_scope_jumps l (fun a' w'=>rest.wp P (Exit.noGoto Q) a' w') (fun _ _=>0) hf first
    (fun _ _ h=>wp_mono h (fun e _ _ hq=>by cases e <;> first | exact hq | exact False.elim hq))
def seqS {w0:World} {b:Blk} (l:List (Int × Rs w0 b)):List Sm:=l.map fun y=>y.2.1.2
theorem seq_snoc {w0:World} {b:Blk} (l:List (Int × Rs w0 b)) (x:Int × Rs w0 b):seqS (l ++ [x])=seqS l ++ [x.2.1.2]:=by unfold seqS;rw [List.map_append];rfl
set_option maxRecDepth 100000 in
set_option maxHeartbeats 4000000 in
theorem block_step {w0:World} {n₀ gc bc bm times:Nat} {locs:List UInt8} (b:Blk) (hl:locs.length<=1000) (htm:times<=8) (ih:∀ b',b'.size<b.size->BlkC w0 n₀ gc bc bm locs times b'):BlkC w0 n₀ gc bc bm locs times b:=by
  intro c dst v w hC hS hd hd2
  obtain ⟨p,cap,xs,rfl,hbl,hxl,hmap,hat⟩:=stand_rs hS
  have HC:=Lib.hid hC
  have HIH:=Lib.hid ih
  have HLT:=Lib.hid (And.intro hl htm)
  have HBW:Hid (bm<w.heap.size/\w0.heap.size<=w.heap.size):=Lib.hid ⟨hC.boxm.lt,Nat.le_trans hC.old.2.1 hC.old.2.2⟩
  have HXL:Hid (xs.length<=1000000):=Lib.hid (by omega)
  have HMAP:=Lib.hid hmap
  have HALL:=Lib.hid (cur_all locs times b c dst)
  have HAT:Hid (∀ k x,xs[k]? = some x->∃ g o,p=some ⟨g,o,none⟩/\g<n₀/\ElAt w0 g (o+k * 8) x.1.1):=Lib.hid fun k x hx=>by
    obtain ⟨g,o,e,h⟩:=hat k x hx
    exact ⟨g,o,e,Nat.lt_of_lt_of_le (World.block_lt_of_cell? _ _ h.1) hC.old.2.1,h⟩
  have H0:Hid (BkAt w0 n₀ gc bc bm locs times w (c,dst) ((w.alloc (.cells #[.pointer (some ⟨gc,0,none⟩)] 117)).alloc (.cells #[.int .i64 dst] 3))):=Lib.hid
    ⟨hC.grown (two_low _ _ _),(Sits.new _ _ _).alloc _,Sits.made (by simp) _ _,Turn.of_below (two_low _ _ _),⟨hd,hd2⟩⟩
  have HCU:Hid ((c,dst)=curF locs times c dst []):=Lib.hid rfl
  rw [HCU.out] at H0
  generalize blockF locs times b c dst=out at HALL ⊢
  clear hC hS ih hl htm hbl hxl hmap hat hd hd2
  refine (callsIn_wide (n:=5)).1 ?_
  refine callsIn_of_wp_marks Tryz.func43 rfl trivial ?_ rfl
  simp only [Tryz.ntmps43,List.size_toArray,List.length_cons,List.length_nil,Nat.reduceAdd,Nat.reduceSub,Array.replicate_succ,Array.replicate_zero,List.push_toArray,List.append_toArray,List.nil_append,List.cons_append]
  refine wpIn_wide.2 ?_
  go_wp2_with fail
  refine wp_scope_forward 0 rfl ?_
  go_upto_region 1 with (fail)
  generalize ((w.alloc (.cells #[.pointer (some ⟨gc,0,none⟩)] 117)).alloc (.cells #[.int .i64 dst] 3))=w1 at H0 ⊢
  go_wp2_with fail
  refine (backS_any _ _ _ _).mono ?_
  rintro e w2 ⟨rfl,rfl⟩
  have HSB:=Lib.hid (Sits.new w1 110 #[.slice p xs.length cap])
  have H2:=Lib.hid (H0.out.grown (one_low w1 (.cells #[.slice p xs.length cap] 110)))
  have HGE:Hid (w.heap.size+2<=w1.heap.size):=Lib.hid (by have:=H0.out.at5.lt;omega)
  have HSZ:Hid ((w1.alloc (.cells #[.slice p xs.length cap] 110)).heap.size=w1.heap.size+1):=Lib.hid (by simp)
  clear H0
  go_upto_block 0 with fail
  generalize w1.alloc (.cells #[.slice p xs.length cap] 110)=W0 at HSB H2 HSZ ⊢
  generalize w1.heap.size=sb at HSB HGE HSZ ⊢
  have HATW:Hid (∀ k x,xs[k]? = some x->∃ g o,p=some ⟨g,o,none⟩/\g<n₀/\ElAt W0 g (o+k * 8) x.1.1):=Lib.hid fun k x hx=>by
    obtain ⟨g,o,e,hg,h0,h1,h2,h3,h4,h5,h6,h7⟩:=HAT.out k x hx
    have hk:=H2.out.cod.base.kept
    exact ⟨g,o,e,hg,hk.cell hg h0,hk.cell hg h1,hk.cell hg h2,hk.cell hg h3,hk.cell hg h4,hk.cell hg h5,hk.cell hg h6,hk.cell hg h7⟩
  go_wp2_with fail
  refine (wpIn_wide (n:=5)).1 ?_
  refine wpIn_rangeFunc_ownH (α:=Int × Rs w0 b) rfl (by decide) (gf:=156) (lb:=#[.pointer (some ⟨sb,0,none⟩)]) rfl trivial backS1_enters
    (encs:=encE fun x:Rs w0 b=>x.1.1) (Kp:=KeptU n₀) (S:=fun ys=>ys.map (·.2)=xs.reverse) (Sp:=fun pre=>∃ k,k<=xs.length/\pre.map (·.2)=xs.reverse.take k) (N:=xs.length) (w0:=W0)
    (fun l Jr Jx W hW _ _ hY h0=>backS1_in (fun x:Rs w0 b=>x.1.1) Fence.wide 4 trivial rfl (by decide) l sb n₀ cap p xs HXL.out Jr Jx hY W (HSB.out.below hW HSB.out.lt)
      (fun k x hx=>by
        obtain ⟨g,o,e,hg,h0,h1,h2,h3,h4,h5,h6,h7⟩:=HATW.out k x hx
        have hk:KeptU n₀ W0 W:=(Turn.of_below hW).kept
        exact ⟨g,o,e,hg,hk.cell hg h0,hk.cell hg h1,hk.cell hg h2,hk.cell hg h3,hk.cell hg h4,hk.cell hg h5,hk.cell hg h6,hk.cell hg h7⟩) h0)
    (fun h h'=>h.trans h') (fun W l o1 o' _ h2 h3 _=>KeptU.put _ W l o1 o' h2 h3) (Below.refl _ _) (fun _=>rfl)
    (fun pre W=>BkAt w0 n₀ gc bc bm locs times w (curF locs times c dst (seqS pre)) W/\W0.heap.size<=W.heap.size)
    (fun q pre W=>q = .goto 0/\(curF locs times c dst (seqS pre)).1.2=true/\BkAt w0 n₀ gc bc bm locs times w (curF locs times c dst (seqS pre)) W/\W0.heap.size<=W.heap.size)
    (fun s W W' row ⟨h1,h2⟩ hg hr=>⟨h1.walk HBW.out.2 hg (fun k e=>⟨by have:=(hr k e).1;have:=HGE.out;have:=HSZ.out;omega,(hr k e).2⟩),Nat.le_trans h2 hg.size⟩)
    (fun q s W W' row ⟨h0,h1,h2,h3⟩ hg hr=>⟨h0,h1,h2.walk HBW.out.2 hg (fun k e=>⟨by have:=(hr k e).1;have:=HGE.out;have:=HSZ.out;omega,(hr k e).2⟩),Nat.le_trans h3 hg.size⟩)
    ⟨H2.out,Nat.le_refl _⟩
    (fun x a' W=>∃ B8,W0.heap.size<=B8/\Sits W B8 169 (elCells x.2.1.1)/\Fr 39 [(3,.pointer (some ⟨w.heap.size,0,none⟩)),(5,.pointer (some ⟨w.heap.size+1,0,none⟩)),(8,.pointer (some ⟨B8,0,none⟩))] a')
    (fun x a' _ X Y row hs hg hr=>by
      obtain ⟨B8,h1,h2,h3⟩:=hs
      refine ⟨B8,h1,h2.grown hg fun e=>?_,h3⟩
      obtain ⟨_,o,ho,hc⟩:=hr B8 e
      unfold Sits at h2
      rw [h2] at ho;injection ho with ho;subst ho;simp [Obj.isCells] at hc)
    ?assign ?body ?done ?stop
  case assign =>
    rintro l pre ⟨i,⟨⟨x0,x1,x2,x3,x4,x5,x6,x7⟩,m,t,e⟩,hx⟩ W K ⟨hA,hz⟩ hK
    obtain ⟨pa,hpa,_⟩:=hx.1.a.ptr
    obtain ⟨pb,hpb,_⟩:=hx.1.b.ptr
    obtain ⟨pt,ct,hpt,_⟩:=hx.1.t.len
    obtain ⟨pe,ce,hpe,_⟩:=hx.1.e.len
    dsimp only at hpa hpb hpt hpe
    subst hpa hpb hpt hpe
    dsimp only [encE,elV,elCells]
    gi_wp2
    refine hK _ _ ((Turn.of_below (n₀:=n₀) (one_low _ _)).keeps _) (Turn.of_below (one_low _ _)).kept ⟨hA.grown (one_low _ _),by simp;omega⟩ ⟨W.heap.size,hz,Sits.new _ _ _,?_⟩
    exact ⟨rfl,rfl,by simp only [List.mem_cons,List.not_mem_nil,or_false,forall_eq_or_imp,forall_eq];exact ⟨rfl,rfl,rfl⟩⟩
  case body =>
    rintro l pre ⟨i,⟨⟨x0,x1,x2,x3,x4,x5,x6,x7⟩,m,t,e⟩,hx⟩ ⟨T2,D2⟩ W hl ⟨lr,hlr⟩ ⟨hA,hz⟩ ⟨B8,hB8,hS8,hF⟩ hlt
    obtain ⟨hs2,hdf,hat⟩:=hF
    simp only [List.mem_cons,List.not_mem_nil,or_false,forall_eq_or_imp,forall_eq] at hs2 hdf hat
    obtain ⟨q0,q1,q2⟩:=hat
    subst hdf
    have hsp:=spread T2 39 hs2
    simp only [List.range,List.range.loop,List.map_cons,List.map_nil,q0,q1,q2] at hsp
    rw [hsp]
    clear hsp hs2 q0 q1 q2
    obtain ⟨pa,hpa,_⟩:=hx.1.a.ptr
    obtain ⟨pb,hpb,_⟩:=hx.1.b.ptr
    obtain ⟨pt,ct,hpt,_⟩:=hx.1.t.len
    obtain ⟨pe,ce,hpe,_⟩:=hx.1.e.len
    have HEL:=Lib.hid hx.1
    have HMB:=Lib.hid hx.2
    dsimp only at hpa hpb hpt hpe HEL HMB
    subst hpa hpb hpt hpe
    have HSN:Hid (curF locs times c dst (seqS (pre ++ [(i,⟨(⟨x0,x1,x2,x3,.pointer pa,.pointer pb,.slice pt t.len ct,.slice pe e.len ce⟩,m,t,e),hx⟩)]))=stepB locs times (m,t,e) (curF locs times c dst (seqS pre))):=Lib.hid (by rw [seq_snoc,cur_snoc])
    have HA:=Lib.hid hA
    have HZ:=Lib.hid hz
    have HS8:=Lib.hid hS8
    clear hA hz hS8 hl hlr hlt
    generalize curF locs times c dst (seqS pre)=q at HA HSN
    obtain ⟨r,d,css,hc,_,_⟩:=HA.out.cod.cod
    have c1:W.cell? ⟨gc,1,none⟩=some (.bool q.1.2):=hc.cell 1
    have lc:=hc.lt
    have p3:W.cell? ⟨w.heap.size,0,none⟩=some (.pointer (some ⟨gc,0,none⟩)):=HA.out.at3.cell 0
    have l3:=HA.out.at3.lt
    have z5:W.cell? ⟨w.heap.size+1,0,none⟩=some (.int .i64 q.2):=HA.out.at5.cell 0
    have l5:=HA.out.at5.lt
    have y0:W.cell? ⟨B8,0,none⟩=some (.int .u8 x0):=HS8.out.cell 0
    have y1:W.cell? ⟨B8,1,none⟩=some (.int .u8 x1):=HS8.out.cell 1
    have y2:W.cell? ⟨B8,2,none⟩=some (.int .u8 x2):=HS8.out.cell 2
    have y3:W.cell? ⟨B8,3,none⟩=some (.int .u8 x3):=HS8.out.cell 3
    have y4:W.cell? ⟨B8,4,none⟩=some (.pointer pa):=HS8.out.cell 4
    have y5:W.cell? ⟨B8,5,none⟩=some (.pointer pb):=HS8.out.cell 5
    have y6:W.cell? ⟨B8,6,none⟩=some (.slice pt t.len ct):=HS8.out.cell 6
    have y7:W.cell? ⟨B8,7,none⟩=some (.slice pe e.len ce):=HS8.out.cell 7
    have l8:=HS8.out.lt
    clear hc
    cases hfull:q.1.2
    · rw [hfull] at c1
      by_cases h8:x0=8
      · have hz8:((x0:Int) == 8)=true:=by simp [h8]
        have hk8:m.kind=8:=HEL.out.kind.symm.trans h8
        clear h8
        have HST:Hid (stepB locs times (m,t,e) q=choiceF (blockF locs times t) (blockF locs times e) m.a q.1 q.2):=Lib.hid (by unfold stepB;rw [if_neg (by rw [hfull];decide)];unfold stmtF;rw [if_pos hk8])
        have HCL:Hid (Calls Tryz.prog 96 #[.pointer (some ⟨gc,0,none⟩),.agg #[.int .u8 x0,.int .u8 x1,.int .u8 x2,.int .u8 x3,.pointer pa,.pointer pb,.slice pt t.len ct,.slice pe e.len ce],.int .i64 q.2] W (PutC w0 n₀ gc bc bm locs times (choiceF (blockF locs times t) (blockF locs times e) m.a q.1 q.2) W)):=Lib.hid (choice_any HA.out.cod (⟨x0,x1,x2,x3,.pointer pa,.pointer pb,.slice pt t.len ct,.slice pe e.len ce⟩:El) m t e HEL.out (HIH.out t (list_size HMB.out).1) (HIH.out e (list_size HMB.out).2) q.2 HA.out.bound.1 HA.out.bound.2)
        clear hfull
        gi_wp2_with fail
        refine ⟨trivial,?_⟩
        refine (CallsIn.inRound l (callsIn_wide.2 HCL.out)).mono ?_
        rintro e' W2 ⟨rfl,h2,h3⟩
        have HBN:Hid (-1<=(choiceF (blockF locs times t) (blockF locs times e) m.a q.1 q.2).2/\(choiceF (blockF locs times t) (blockF locs times e) m.a q.1 q.2).2<=32):=Lib.hid (by rw [<- HST.out];exact step_keeps locs times (m,t,e) HA.out.cod.few HA.out.bound.1 HA.out.bound.2)
        have HPUT:=Lib.hid (HA.out.put HBW.out.1 HBW.out.2 h2 h3 HBN.out)
        have HNU:Hid (KeptU n₀ W (W2.setCell ⟨w.heap.size+1,0,none⟩ (.int .i64 (choiceF (blockF locs times t) (blockF locs times e) m.a q.1 q.2).2))):=Lib.hid (h3.kept.trans (KeptU.num (by have:=HC.out.old.2.2;omega) (h3.sits (by decide) HA.out.at5) _))
        have HKF:Hid (KeepsFrom W0.heap.size W (W2.setCell ⟨w.heap.size+1,0,none⟩ (.int .i64 (choiceF (blockF locs times t) (blockF locs times e) m.a q.1 q.2).2))):=Lib.hid ((h3.keeps _).trans ((KeepsOthers.setCell _ _ _).from _))
        have HSW:Hid (W0.heap.size<=(W2.setCell ⟨w.heap.size+1,0,none⟩ (.int .i64 (choiceF (blockF locs times t) (blockF locs times e) m.a q.1 q.2).2)).heap.size):=Lib.hid (by have:=HZ.out;have:=h3.size;simp [World.setCell];omega)
        have H5:=Lib.hid (h3.sits (by decide) HA.out.at5)
        clear h2 h3 HCL c1 p3 z5 y0 y1 y2 y3 y4 y5 y6 y7 l8 lc l3 l5
        have z5:W2.cell? ⟨w.heap.size+1,0,none⟩=some (.int .i64 q.2):=H5.out.cell 0
        have l5:=H5.out.lt
        have f5:=H5.out.free 0
        gi_wp2_with fail
        exact ⟨HKF.out,HNU.out,by rw [HSN.out,HST.out];exact HPUT.out,HSW.out⟩
      by_cases h9:x0=9
      · have hz8:((x0:Int) == 8)=false:=by simp;omega
        have hz9:((x0:Int) == 9)=true:=by simp [h9]
        have hk8:¬ m.kind=8:=fun e=>h8 (HEL.out.kind.trans e)
        have hk9:m.kind=9:=HEL.out.kind.symm.trans h9
        clear h8 h9
        have HST:Hid (stepB locs times (m,t,e) q=loopF (blockF locs times t) times m.a q.1 q.2):=Lib.hid (by unfold stepB;rw [if_neg (by rw [hfull];decide)];unfold stmtF;rw [if_neg hk8,if_pos hk9])
        have HCL:Hid (Calls Tryz.prog 97 #[.pointer (some ⟨gc,0,none⟩),.agg #[.int .u8 x0,.int .u8 x1,.int .u8 x2,.int .u8 x3,.pointer pa,.pointer pb,.slice pt t.len ct,.slice pe e.len ce],.int .i64 q.2] W (PutC w0 n₀ gc bc bm locs times (loopF (blockF locs times t) times m.a q.1 q.2) W)):=Lib.hid (loop_any HA.out.cod (⟨x0,x1,x2,x3,.pointer pa,.pointer pb,.slice pt t.len ct,.slice pe e.len ce⟩:El) m t e HEL.out (HIH.out t (list_size HMB.out).1) q.2 HA.out.bound.1 HA.out.bound.2 HLT.out.2)
        clear hfull
        gi_wp2_with fail
        refine ⟨trivial,?_⟩
        refine (CallsIn.inRound l (callsIn_wide.2 HCL.out)).mono ?_
        rintro e' W2 ⟨rfl,h2,h3⟩
        have HBN:Hid (-1<=(loopF (blockF locs times t) times m.a q.1 q.2).2/\(loopF (blockF locs times t) times m.a q.1 q.2).2<=32):=Lib.hid (by rw [<- HST.out];exact step_keeps locs times (m,t,e) HA.out.cod.few HA.out.bound.1 HA.out.bound.2)
        have HPUT:=Lib.hid (HA.out.put HBW.out.1 HBW.out.2 h2 h3 HBN.out)
        have HNU:Hid (KeptU n₀ W (W2.setCell ⟨w.heap.size+1,0,none⟩ (.int .i64 (loopF (blockF locs times t) times m.a q.1 q.2).2))):=Lib.hid (h3.kept.trans (KeptU.num (by have:=HC.out.old.2.2;omega) (h3.sits (by decide) HA.out.at5) _))
        have HKF:Hid (KeepsFrom W0.heap.size W (W2.setCell ⟨w.heap.size+1,0,none⟩ (.int .i64 (loopF (blockF locs times t) times m.a q.1 q.2).2))):=Lib.hid ((h3.keeps _).trans ((KeepsOthers.setCell _ _ _).from _))
        have HSW:Hid (W0.heap.size<=(W2.setCell ⟨w.heap.size+1,0,none⟩ (.int .i64 (loopF (blockF locs times t) times m.a q.1 q.2).2)).heap.size):=Lib.hid (by have:=HZ.out;have:=h3.size;simp [World.setCell];omega)
        have H5:=Lib.hid (h3.sits (by decide) HA.out.at5)
        clear h2 h3 HCL c1 p3 z5 y0 y1 y2 y3 y4 y5 y6 y7 l8 lc l3 l5
        have z5:W2.cell? ⟨w.heap.size+1,0,none⟩=some (.int .i64 q.2):=H5.out.cell 0
        have l5:=H5.out.lt
        have f5:=H5.out.free 0
        gi_wp2_with fail
        exact ⟨HKF.out,HNU.out,by rw [HSN.out,HST.out];exact HPUT.out,HSW.out⟩
      · have hz8:((x0:Int) == 8)=false:=by simp;omega
        have hz9:((x0:Int) == 9)=false:=by simp;omega
        have hk8:¬ m.kind=8:=fun e=>h8 (HEL.out.kind.trans e)
        have hk9:¬ m.kind=9:=fun e=>h9 (HEL.out.kind.trans e)
        clear h8 h9
        have HST:Hid (stepB locs times (m,t,e) q=plainF locs m q.1 q.2):=Lib.hid (by unfold stepB;rw [if_neg (by rw [hfull];decide)];unfold stmtF;rw [if_neg hk8,if_neg hk9])
        have HCL:Hid (Calls Tryz.prog 98 #[.pointer (some ⟨gc,0,none⟩),.agg #[.int .u8 x0,.int .u8 x1,.int .u8 x2,.int .u8 x3,.pointer pa,.pointer pb,.slice pt t.len ct,.slice pe e.len ce],.int .i64 q.2] W (PutC w0 n₀ gc bc bm locs times (plainF locs m q.1 q.2) W)):=Lib.hid (plain_any HA.out.cod (⟨x0,x1,x2,x3,.pointer pa,.pointer pb,.slice pt t.len ct,.slice pe e.len ce⟩:El) m t e HEL.out q.2 HLT.out.1)
        clear hfull
        gi_wp2_with fail
        refine ⟨trivial,?_⟩
        refine (CallsIn.inRound l (callsIn_wide.2 HCL.out)).mono ?_
        rintro e' W2 ⟨rfl,h2,h3⟩
        have HBN:Hid (-1<=(plainF locs m q.1 q.2).2/\(plainF locs m q.1 q.2).2<=32):=Lib.hid (by rw [<- HST.out];exact step_keeps locs times (m,t,e) HA.out.cod.few HA.out.bound.1 HA.out.bound.2)
        have HPUT:=Lib.hid (HA.out.put HBW.out.1 HBW.out.2 h2 h3 HBN.out)
        have HNU:Hid (KeptU n₀ W (W2.setCell ⟨w.heap.size+1,0,none⟩ (.int .i64 (plainF locs m q.1 q.2).2))):=Lib.hid (h3.kept.trans (KeptU.num (by have:=HC.out.old.2.2;omega) (h3.sits (by decide) HA.out.at5) _))
        have HKF:Hid (KeepsFrom W0.heap.size W (W2.setCell ⟨w.heap.size+1,0,none⟩ (.int .i64 (plainF locs m q.1 q.2).2))):=Lib.hid ((h3.keeps _).trans ((KeepsOthers.setCell _ _ _).from _))
        have HSW:Hid (W0.heap.size<=(W2.setCell ⟨w.heap.size+1,0,none⟩ (.int .i64 (plainF locs m q.1 q.2).2)).heap.size):=Lib.hid (by have:=HZ.out;have:=h3.size;simp [World.setCell];omega)
        have H5:=Lib.hid (h3.sits (by decide) HA.out.at5)
        clear h2 h3 HCL c1 p3 z5 y0 y1 y2 y3 y4 y5 y6 y7 l8 lc l3 l5
        have z5:W2.cell? ⟨w.heap.size+1,0,none⟩=some (.int .i64 q.2):=H5.out.cell 0
        have l5:=H5.out.lt
        have f5:=H5.out.free 0
        gi_wp2_with fail
        exact ⟨HKF.out,HNU.out,by rw [HSN.out,HST.out];exact HPUT.out,HSW.out⟩
    · rw [hfull] at c1
      have HST:Hid (stepB locs times (m,t,e) q=q):=Lib.hid (by unfold stepB;rw [if_pos hfull])
      have HFU:=Lib.hid hfull
      clear hfull
      gi_wp2_with fail
      refine wpIn_goto ?_
      exact ⟨KeepsFrom.refl _ _,rfl,by rw [HSN.out,HST.out];exact HFU.out,by rw [HSN.out,HST.out];exact HA.out,HZ.out⟩
  case done =>
    rintro D ys W hD hS ⟨hA,hz⟩ hK
    have e:curF locs times c dst (seqS ys)=out:=by
      rw [<- HALL.out,<- HMAP.out,<- List.map_reverse,<- hS]
      unfold seqS
      rw [List.map_map];rfl
    rw [e] at hA
    have HA:=Lib.hid hA
    have HK:=Lib.hid hK
    have HD:=Lib.hid (show w.heap.size<=D by have:=HGE.out;have:=HSZ.out;omega)
    clear hA hz hS hK hD e
    have z5:W.cell? ⟨w.heap.size+1,0,none⟩=some (.int .i64 out.2):=HA.out.at5.cell 0
    have l5:=HA.out.at5.lt
    go_wp2_with fail
    refine (wpIn_wide (n:=5)).1 (wpIn_label ?_)
    go_wp2_with fail
    refine ⟨by simp,.inl ⟨_,_,rfl,run_takeDeferred HK.out,?_⟩⟩
    have hw:=HA.out.walk HBW.out.2 (row:=some D) (grownBy_putObj' W D (.deferred none)) (fun k e=>by cases e;exact ⟨HD.out,_,HK.out,rfl⟩)
    exact ⟨.int .i64 out.2,by simp [results,Tryz.results43,go_sem],rfl,hw.cod,hw.turn⟩
  case stop =>
    rintro D q pre W hD ⟨k,hk,hpre⟩ ⟨rfl,hf,hA,hz⟩ hK
    have e:curF locs times c dst (seqS pre)=out:=by
      have h:=cur_full locs times c dst (seqS pre) ((xs.reverse.drop k).map (·.1.2)) hf
      have eL:(Blk.list b).reverse=xs.reverse.map (fun x=>x.1.2):=by rw [List.map_reverse];exact congrArg List.reverse HMAP.out.symm
      have e2:xs.reverse.map (fun x=>x.1.2)=seqS pre ++ (xs.reverse.drop k).map (fun x=>x.1.2):=by
        have e3:seqS pre=(xs.reverse.take k).map (fun x=>x.1.2):=by rw [<- hpre,List.map_map];rfl
        rw [e3,<- List.map_append,List.take_append_drop]
      rw [<- h,<- HALL.out]
      exact congrArg (curF locs times c dst) (eL.trans e2).symm
    rw [e] at hA
    have HA:=Lib.hid hA
    have HK:=Lib.hid hK
    have HD:=Lib.hid (show w.heap.size<=D by have:=HGE.out;have:=HSZ.out;omega)
    clear hA hz hK hD e hf hpre hk
    refine wpIn_goto ?_
    show _/\_
    refine ⟨rfl,?_⟩
    have z5:W.cell? ⟨w.heap.size+1,0,none⟩=some (.int .i64 out.2):=HA.out.at5.cell 0
    have l5:=HA.out.at5.lt
    go_wp2_with fail
    refine ⟨by simp,.inl ⟨_,_,rfl,run_takeDeferred HK.out,?_⟩⟩
    have hw:=HA.out.walk HBW.out.2 (row:=some D) (grownBy_putObj' W D (.deferred none)) (fun k e=>by cases e;exact ⟨HD.out,_,HK.out,rfl⟩)
    exact ⟨.int .i64 out.2,by simp [results,Tryz.results43,go_sem],rfl,hw.cod,hw.turn⟩
end Go.Proofs.YtagebkachdmnbaaGreatDoor.Unr
end
