/- Part 31 of the proof: what is used of the texts ChkG, ChkL, ChkM. -/
import Derived.Test.YtbkdappgmcebaaaGreatDoorLC9
import Derived.Test.YtbkdappgmcebaaaGreatDoorLC8
import Derived.Test.YtbkdappgmcebaaaGreatDoorLC1
import Derived.RangeFuncNested
import Derived.RangeFuncBound
import Derived.RangeFuncCalls
import Derived.RangeFuncLeaves
import Derived.Shelf.Abstract
import Derived.Shelf.RegionOpen
import Derived.WalkKit
import Derived.OwnWalkIn
import Derived.TacticsInMore
import Derived.LoopNIn
import Derived.LoopIn
import Derived.Test.YtbkdappgmcebaaaGreatDoorLC7
import Derived.KernelRfl
section
namespace Go.Proofs.YtbkdappgmcebaaaGreatDoor.Chk
open Go.RowKit Go.Proofs.YtbkdappgmcebaaaGreatDoor.Mem Go.Proofs.YtbkdappgmcebaaaGreatDoor.Expr Go.Proofs.YtbkdappgmcebaaaGreatDoor.Prog Go.Lib
theorem row_lt {w:World} {v:Value} {b:Blk} {cs:List Value} (h:RowAt any_ w v b.len cs) (hh:Holds any_ w b cs):RowAt (fun g=>g<w.heap.size) w v b.len cs:=by
  rcases h with h | ⟨g,o,cap,hv,_,hn,hc⟩
  · exact .inl h
  · cases b with
    | nil=>exact .inl ⟨rfl,_,cap,hv⟩
    | cons m t e r =>
      obtain ⟨av,bv,tv,ev,ct,ce,cr,rfl,_⟩:=hh
      exact .inr ⟨g,o,cap,hv,World.block_lt_of_cell? w _ (hc 0 _ rfl),hn,hc⟩
theorem holds_lt {w:World}:∀ {b:Blk} {cs:List Value},Holds any_ w b cs->Holds (fun g=>g<w.heap.size) w b cs:=by
  intro b
  induction b with
  | nil=>intro cs h;exact h
  | cons m t e r iht ihe ihr =>
    intro cs h
    obtain ⟨av,bv,tv,ev,ct,ce,cr,rfl,ha,hb,hct,ht,hce,he,hr⟩:=h
    exact ⟨av,bv,tv,ev,ct,ce,cr,rfl,ha,hb,row_lt hct ht,iht ht,row_lt hce he,ihe he,ihr hr⟩
theorem stand_off {w w':World} {b:Blk} {v:Value} {g:Nat} (h:Stand any_ w b v) (hb:Below w.heap.size w w') (hg:w.heap.size<=g):Stand (off g) w' b v:=by
  obtain ⟨cs,h1,h2⟩:=h
  have hs:Stand (fun g=>g<w.heap.size) w b v:=⟨cs,row_lt h1 h2,holds_lt h2⟩
  refine (hs.keep (Stable.below hb) (fun x hx j u hu=>?_)).wider (fun x hx e=>by have:x=g:=e;omega)
  exact cell_below (U:=any_) hb x trivial j u hu
theorem KindAt.keep {w w':World} {g:Nat} (h:KindAt w) (k:Keeps (fun x=>x=g) w w') (hg:g≠0):KindAt w' :=
  ⟨Nat.lt_of_lt_of_le h.1 k.size,fun i j hi hj=>by rw [World.cell?_of_block (k.block _ h.1 (fun e=>hg e.symm))];exact h.2 i j hi hj⟩
theorem told_boxed {w w':World} {g:Nat} {b b':Bool} {o:Obj} (h:Sits w g 4 (boolC b)) (hb:Below (w.alloc o).heap.size (w.alloc o) w'):ToldS g 4 (boolC b') w (.returned (.tuple #[])) (w'.setCell ⟨g,0,none⟩ (.bool b')) :=
  ⟨rfl,((h.alloc o).below hb (h.alloc o).lt).put 0 (.bool b'),(((Keeps.refl (fun x=>x=g) w).alloc o).trans (Keeps.of_below hb)).put (p:=⟨g,0,none⟩) (.inl rfl) _⟩
set_option maxRecDepth 100000 in
theorem sts1_any (m:Mk) (pa pb pt pe:Option Addr) (nt ct ne ce g:Nat) (s:Bool) (w:World) (hf:FineM m) (hT:KindAt w) (hB:Sits w g 4 (boolC s)) (ha:Tree w (trO m.a) (.pointer pa)) (hb:Tree w (trO m.b) (.pointer pb)) :
    Calls Tryz.prog 103 #[stAgg m (.pointer pa) (.pointer pb) (.slice pt nt ct) (.slice pe ne ce),.pointer (some ⟨g,0,none⟩)] w (ToldS g 4 (boolC (mayR m nt ne s)) w):=by
  have b0:w.cell? ⟨g,0,none⟩=some (.bool s):=hB.cell 0
  have f0:=hB.free 0
  have lm:=hB.lt
  have hlow:Below w.heap.size w (w.alloc (.cells #[.int .u8 m.kind,.int .u8 m.reg,.int .u8 m.mode,.int .u8 m.loc,.pointer pa,.pointer pb,.slice pt nt ct,.slice pe ne ce] 150)):=(Below.refl _ w).alloc (Nat.le_refl _) _
  have HX:=Lib.hid (stMay_any m pa pb pt pe nt ct ne ce _ hf (hT.below hlow) (ha.below hlow) (hb.below hlow))
  have HT:=Lib.hid (fun b' o=>boxed_told (b':=b') hB o)
  have HT2:=Lib.hid (fun b' w' h=>told_boxed (b':=b') (w':=w') (o:=.cells #[.int .u8 m.kind,.int .u8 m.reg,.int .u8 m.mode,.int .u8 m.loc,.pointer pa,.pointer pb,.slice pt nt ct,.slice pe ne ce] 150) hB h)
  have HB:=Lib.hid hB
  unfold mayR
  cases s with
  | false =>
    rw [Bool.false_and]
    clear hT hB ha hb hf hlow HX HT2
    simp only [stAgg]
    go_enter Tryz.func103,Tryz.ntmps103
    go_wp2_with fail
    go_end0
    exact HT.out _ _
  | true =>
    rw [Bool.true_and]
    generalize stMay m nt ne=r at HX ⊢
    clear hT hB ha hb hf hlow
    simp only [stAgg]
    go_enter Tryz.func103,Tryz.ntmps103
    go_wp2_with fail
    refine HX.out.mono ?_
    rintro e w' ⟨rfl,hb⟩
    have hq:=(HB.out.alloc _).below hb (HB.out.alloc _).lt
    have b1:w'.cell? ⟨g,0,none⟩=some (.bool true):=hq.cell 0
    have f1:=hq.free 0
    have l1:=hq.lt
    have HR:=Lib.hid (HT2.out r _ hb)
    clear hq hb b0 f0 lm
    go_wp2_with fail
    go_end0
    exact HR.out
theorem sts1_enters:Expr.Enters 103:=enters_of Tryz.func103 (by kernel_rfl) rfl
theorem sts1_tale {W0:World} {g:Nat} (hT:KindAt W0) (hg:g≠0):Tale 103 g 4 boolC mayR W0 where
  enters:=sts1_enters
  neE:=by decide
  neS:=by decide
  neK:=by decide
  call:=fun m pa pb pt pe nt ct ne ce s w hf _ _ h1 h2 ha hb=>sts1_any m pa pb pt pe nt ct ne ce g s w hf (hT.keep h2 hg) h1 ha hb
theorem stsMay_snoc (l:List Blk) (c:Blk) (b:Bool):stsMay (l ++ [c]) b=c.fold mayR 8 (stsMay l b):=by simp [stsMay]
theorem take_snoc {α:Type} {l:List α} {i:Nat} {x:α} (h:l[i]? = some x):l.take (i+1)=l.take i ++ [x]:=by rw [List.take_add_one,h];rfl
set_option maxRecDepth 100000 in
theorem stsMay_any (bs:List Blk) (v:Value) (w:World) (hl:bs.length<=1000) (hf:∀ b ∈ bs,b.fine) (hT:KindAt w) (hS:Threads w v bs) :
    Calls Tryz.prog 44 #[v] w fun e w'=>Made (.returned (.bool (stsMay bs true))) w e w':=by
  obtain ⟨p,cap,rfl⟩:=hS.len
  have hb1:Below w.heap.size w (w.alloc (.cells #[.bool true] 4)):=(Below.refl _ w).alloc (Nat.le_refl _) _
  have HB1:=Lib.hid hb1
  have HM1:=Lib.hid (show Sits (w.alloc (.cells #[.bool true] 4)) w.heap.size 4 (boolC true) from Sits.new w _ _)
  have HS:=Lib.hid hS
  have HF:=Lib.hid hf
  have HK:=Lib.hid (fun W (h:Below w.heap.size w W)=>hT.below h)
  have HG:=Lib.hid hT.1
  have m1:(bs.length:Int)<=1000:=by omega
  clear hS hf hT hb1 hl
  go_enter Tryz.func44,Tryz.ntmps44
  go_wp2_with fail
  generalize w.alloc (.cells #[.bool true] 4)=w1 at HB1 HM1 ⊢
  generalize hgb:w.heap.size=g at HM1 ⊢
  have HGB:=Lib.hid hgb
  clear hgb
  go_loopg [8] bs.length (fun gg v8 wx=>∃ i,i<=bs.length/\gg=bs.length - i/\v8 = .int .i64 (i:Nat)/\Hid (Sits wx g 4 (boolC (stsMay (bs.take i) true)))/\Hid (Below w.heap.size w wx))
  case atStart=>exact ⟨0,by omega,by omega,rfl,HM1,HB1⟩
  case round =>
    obtain ⟨i,hi,rfl,rfl,HM,HB⟩:=hrel
    by_cases hlt:i<bs.length
    · have hc:bs[i]? = some bs[i]:=List.getElem?_eq_getElem hlt
      have HFC:=Lib.hid (HF.out bs[i] (List.getElem_mem hlt))
      generalize bs[i]=c at hc HFC
      obtain ⟨gt,ot,cp,u,ev,hcell,hst⟩:=HS.out.at hc
      injection ev with ev1 _ ev2
      subst ev1 ev2
      have hcell2:wr.cell? ⟨gt,ot+i,none⟩=some u:=(HB.out.cell (p:=⟨gt,ot+i,none⟩) (World.block_lt_of_cell? w _ hcell)).trans hcell
      have lgt:=World.block_lt_of_cell? wr _ hcell2
      have HST:=Lib.hid (stand_off (g:=g) hst HB.out (by have:=HGB.out;omega))
      have HW:=Lib.hid (Walkg_any (sts1_tale (HK.out wr HB.out) (by have:=HGB.out;have:=HG.out;omega)) c u _ wr HFC.out HM.out (Keeps.refl _ _) HST.out)
      have HSN:=Lib.hid (show stsMay (bs.take (i+1)) true=c.fold mayR 8 (stsMay (bs.take i) true) by rw [take_snoc hc,stsMay_snoc])
      obtain ⟨pu,nu,cu,rfl⟩:∃ p n c,u = .slice p n c:=by obtain ⟨p,c,h,_⟩:=hst.len;exact ⟨_,_,_,h⟩
      have i1:(i:Int)<(bs.length:Int):=by omega
      have i2:(0:Int)<=(i:Int):=by omega
      have HI:=Lib.hid hlt
      clear hc hst hcell hlt hi
      go_wp2_with fail
      refine HW.out.mono ?_
      rintro e w2 ⟨rfl,hs,hk⟩
      have HM2:=Lib.hid hs
      have HB2:=Lib.hid (behind HB.out hk HB.out.size (fun x e=>by have:=HGB.out;omega))
      clear hs hk hcell2 lgt
      go_wp2_with fail
      go_roundg (bs.length - (i+1))
      case measure=>have:=HI.out;omega
      case rel=>exact ⟨i+1,HI.out,rfl,by go_num,Lib.hid (by rw [HSN.out];exact HM2.out),HB2⟩
    · obtain rfl:i=bs.length:=by omega
      have hm:=HM.out
      rw [List.take_length] at hm
      have b0:wr.cell? ⟨g,0,none⟩=some (.bool (stsMay bs true)):=hm.cell 0
      have lm:=hm.lt
      clear hlt hi hm
      obtain ⟨r,hr⟩:∃ r,r=stsMay bs true:=⟨_,rfl⟩
      rw [<- hr] at b0
      have HR:=Lib.hid hr
      clear hr
      go_wp2_with fail
      go_ret
      exact ⟨by rw [<- HR.out];rfl,HB.out⟩
theorem initL_snoc (l:List (Nat × Nat)) (x:Nat × Nat) (m:Let):initL (l ++ [x]) m=putL x.1 (initL l m):=by simp [initL]
theorem drop_at {α:Type} {l:List α} {i:Nat} {x:α} (h:l[i]? = some x):l.drop i=x :: l.drop (i+1):=by
  obtain ⟨hl,he⟩:=List.getElem?_eq_some_iff.1 h
  rw [List.drop_eq_getElem_cons hl,he]
def initBox (w:World) (a n:Nat):World:=w.alloc (.cells #[.int .u8 a,.int .u64 n] 53)
theorem initBox_low (w:World) (a n:Nat):Below w.heap.size w (initBox w a n):=(Below.refl _ w).alloc (Nat.le_refl _) _
theorem initBox_sits (w:World) (a n:Nat):Sits (initBox w a n) w.heap.size 53 #[.int .u8 a,.int .u64 n]:=Sits.new w _ _
set_option maxRecDepth 100000 in
set_option maxHeartbeats 1000000 in
theorem starts_any (l:List (Nat × Nat)) (v:Value) (w:World) (hl:l.length<=1000) (hS:Inits w v l) :
    Calls Tryz.prog 46 #[v] w fun e w'=>Made (.returned (.bool (startsF l noLet))) w e w':=by
  obtain ⟨p,cap,rfl⟩:=hS.len
  have HB1:=Lib.hid (show Below w.heap.size w (w.alloc (.cells (letC noLet) 167)) from (Below.refl _ w).alloc (Nat.le_refl _) _)
  have HM1:=Lib.hid (Sits.new w 167 (letC noLet))
  have HS:=Lib.hid hS
  have m1:(l.length:Int)<=1000:=by omega
  clear hS hl
  go_enter Tryz.func46,Tryz.ntmps46
  go_wp2_with fail
  change Code.wp _ _ _ _ (w.alloc (.cells (letC noLet) 167))
  generalize w.alloc (.cells (letC noLet) 167)=w1 at HB1 HM1 ⊢
  generalize hgb:w.heap.size=g at HM1 ⊢
  have HGB:=Lib.hid hgb
  clear hgb
  go_loopg [8] l.length (fun gg v8 wx=>∃ i,i<=l.length/\gg=l.length - i/\v8 = .int .i64 (i:Nat)/\Hid (Sits wx g 167 (letC (initL (l.take i) noLet)))/\Hid (Below w.heap.size w wx)/\Hid (startsF l noLet=startsF (l.drop i) (initL (l.take i) noLet)))
  case atStart=>exact ⟨0,by omega,by omega,rfl,HM1,HB1,Lib.hid rfl⟩
  case round =>
    obtain ⟨i,hi,rfl,rfl,HM,HB,HE⟩:=hrel
    by_cases hlt:i<l.length
    · have hc:l[i]? = some l[i]:=List.getElem?_eq_getElem hlt
      generalize l[i]=c at hc
      obtain ⟨a,n⟩:=c
      obtain ⟨gt,ot,cp,ev,h0,h1⟩:=HS.out.at hc
      injection ev with ev1 _ ev2
      subst ev1 ev2
      have h0':wr.cell? ⟨gt,ot+i * 2,none⟩=some (.int .u8 (a:Nat)):=(HB.out.cell (p:=⟨gt,ot+i * 2,none⟩) (World.block_lt_of_cell? w _ h0)).trans h0
      have h1':wr.cell? ⟨gt,ot+i * 2+1,none⟩=some (.int .u64 (n:Nat)):=(HB.out.cell (p:=⟨gt,ot+i * 2+1,none⟩) (World.block_lt_of_cell? w _ h1)).trans h1
      have lgt:=World.block_lt_of_cell? wr _ h0'
      have hd:=HE.out
      rw [drop_at hc] at hd
      have HSN:=Lib.hid (show initL (l.take (i+1)) noLet=putL a (initL (l.take i) noLet) by rw [take_snoc hc,initL_snoc])
      generalize hml:initL (l.take i) noLet=m at HM hd HSN
      have HD:=Lib.hid (show startsF l noLet=(isLoc a && !m (a - 97) && startsF (l.drop (i+1)) (putL a m)) from hd)
      have hlow:=HB.out.trans ((initBox_low wr a n).mono HB.out.size)
      have HB2:=Lib.hid hlow
      have hms:=HM.out.below (initBox_low wr a n) HM.out.lt
      have HM2:=Lib.hid hms
      have HIL:=Lib.hid (fun W=>isLoc_any a W)
      have HPU:=Lib.hid (put_any g a m _ hms)
      have HHA:=Lib.hid (has_any g a m _ hms)
      have ib:=initBox_sits wr a n
      have x0:(initBox wr a n).cell? ⟨wr.heap.size,0,none⟩=some (.int .u8 (a:Nat)):=ib.cell 0
      have lx:=ib.lt
      have i1:(i:Int)<(l.length:Int):=by omega
      have i2:(0:Int)<=(i:Int):=by omega
      have HI:=Lib.hid hlt
      clear hc h0 h1 hlt hi hd hml hms hlow ib
      go_wp2_with fail
      change Calls _ _ _ (initBox wr a n) _
      generalize initBox wr a n=w2 at HB2 HM2 HPU HHA x0 lx ⊢
      refine (HIL.out _).mono ?_
      rintro e w' ⟨rfl,rfl⟩
      cases hla:isLoc a with
      | false =>
        rw [hla,Bool.false_and,Bool.false_and] at HD
        clear hla
        go_wp2_with fail
        go_ret
        exact ⟨by rw [HD.out];rfl,HB2.out⟩
      | true =>
        rw [hla,Bool.true_and] at HD
        have HHB:=Lib.hid (HHA.out hla)
        clear HHA hla
        go_wp2_with fail
        refine HHB.out.mono ?_
        rintro e w' ⟨rfl,rfl⟩
        cases hm:m (a - 97) with
        | true =>
          rw [hm,Bool.not_true,Bool.false_and] at HD
          clear hm
          go_wp2_with fail
          go_ret
          exact ⟨by rw [HD.out];rfl,HB2.out⟩
        | false =>
          rw [hm,Bool.not_false,Bool.true_and] at HD
          clear hm
          go_wp2_with fail
          refine HPU.out.mono ?_
          rintro e w3 ⟨rfl,hs,hk⟩
          have HM3:=Lib.hid hs
          have HB3:=Lib.hid (behind HB2.out hk HB2.out.size (fun x e=>by have:=HGB.out;omega))
          clear hs hk h0' h1' lgt x0 lx
          go_wp2_with fail
          go_roundg (l.length - (i+1))
          case measure=>have:=HI.out;omega
          case rel=>exact ⟨i+1,HI.out,rfl,by go_num,Lib.hid (by rw [HSN.out];exact HM3.out),HB3,Lib.hid (by rw [HSN.out];exact HD.out)⟩
    · obtain rfl:i=l.length:=by omega
      have hd:=HE.out
      rw [List.drop_length] at hd
      have HD:=Lib.hid (show startsF l noLet=true from hd)
      clear hlt hi hd
      go_wp2_with fail
      go_ret
      exact ⟨by rw [HD.out];rfl,HB.out⟩
set_option maxRecDepth 100000 in
theorem tooDeep_any (b:Blk) (v:Value) (w:World) (hS:Stand any_ w b v):Calls Tryz.prog 52 #[v] w fun e w'=>Made (.returned (.bool (decide (8<b.deep)))) w e w':=by
  have HN:=Lib.hid (Nest_any b v w hS)
  obtain ⟨p,c,rfl,_⟩:=hS.len
  clear hS
  by_cases h:8<b.deep
  · rw [show min 9 b.deep=9 by omega] at HN
    rw [decide_eq_true h]
    clear h
    go_enter Tryz.func52,Tryz.ntmps52
    go_wp2_with fail
    refine HN.out.mono ?_
    rintro e w1 ⟨rfl,hb⟩
    have HB:=Lib.hid hb
    clear hb
    go_wp2_with fail
    go_ret
    exact ⟨rfl,HB.out⟩
  · rw [show min 9 b.deep=b.deep by omega] at HN
    rw [decide_eq_false h]
    have i1:decide ((8:Int)<(b.deep:Int))=false:=decide_eq_false (by omega)
    clear h
    generalize b.deep=d at HN i1
    go_enter Tryz.func52,Tryz.ntmps52
    go_wp2_with fail
    refine HN.out.mono ?_
    rintro e w1 ⟨rfl,hb⟩
    have HB:=Lib.hid hb
    clear hb
    go_wp2_with fail
    go_ret
    exact ⟨by rw [<- i1];rfl,HB.out⟩
end Go.Proofs.YtbkdappgmcebaaaGreatDoor.Chk
end
section
namespace Go.Proofs.YtbkdappgmcebaaaGreatDoor.Chk
open Go.RowKit Go.Shelf Go.Proofs.YtbkdappgmcebaaaGreatDoor.Mem Go.Proofs.YtbkdappgmcebaaaGreatDoor.Expr Go.Proofs.YtbkdappgmcebaaaGreatDoor.Prog
attribute [local go_sem] Oper.semAt_some
abbrev encJ (x:Int × (Nat × Nat)):Array Value:=#[.int .i64 x.1,.agg #[.int .u8 x.2.1,.int .u64 x.2.2]]
theorem rev_at {α:Type} {l:List α} {k t:Nat} {x:α} (h:k<l.length) (ht:t=l.length - 1 - k) (hx:l[t]? = some x):l.reverse.take (k+1)=l.reverse.take k ++ [x]:=by
  rw [List.take_add_one,List.getElem?_reverse h,<- ht,hx];rfl
abbrev RJ:={ q:Int × (Nat × Nat) // q.2.1<256 }
abbrev encR (x:RJ):Array Value:=encJ x.1
def KeepX (gk n₀:Nat) (A B:World):Prop:=Keeps (fun x=>x=gk \/ n₀<=x) A B
theorem KeepX.trans {gk n₀:Nat} {A B C:World} (h:KeepX gk n₀ A B) (k:KeepX gk n₀ B C):KeepX gk n₀ A C:=Keeps.trans h k
theorem KeepX.cell {gk n₀:Nat} {A B:World} (h:KeepX gk n₀ A B) {g i:Nat} {u:Value} (hc:A.cell? ⟨g,i,none⟩=some u) (h1:g≠gk) (h2:g<n₀):B.cell? ⟨g,i,none⟩=some u:=by
  rw [World.cell?_of_block (Keeps.block h g (World.block_lt_of_cell? A _ hc) (fun e=>by rcases e with e | e <;> omega))];exact hc
def InitsAt (W:World) (gk n₀:Nat) (p:Option Addr) (xs:List (Nat × Nat)):Prop:=∀ (k:Nat) (x:Nat × Nat),xs[k]? = some x->∃ g o,p=some ⟨g,o,none⟩/\g≠gk/\g<n₀/\W.cell? ⟨g,o+k * 2,none⟩=some (.int .u8 x.1)/\W.cell? ⟨g,o+k * 2+1,none⟩=some (.int .u64 x.2)
set_option maxRecDepth 100000 in
set_option maxHeartbeats 2000000 in
theorem backJ1_in (F:Fence) (n:Nat) (hf:F.fn 119) (hro:F.round=none) (hn:1<=n) (l Bs gk n₀ c:Nat) (p:Option Addr) (xs:List (Nat × Nat)) (hx:xs.length<=1000) (hL:∀ x ∈ xs,x.1<256) (hBn:Bs<n₀) (hBk:Bs≠gk) (J Jx:List RJ->World->Prop)
    (hY:∀ pre x W,J pre W->pre.length<xs.length->YieldAt F (n - 1) Tryz.prog l (encR x) W fun e W' =>
      (e = .returned (.bool true)/\J (pre ++ [x]) W' /\ KeepX gk n₀ W W') \/ (e = .returned (.bool false)/\Jx (pre ++ [x]) W'))
    (W:World) (hBs:W.cell? ⟨Bs,0,none⟩=some (.slice p xs.length c)) (hc:InitsAt W gk n₀ p xs) (h0:J [] W) :
    CallsIn F n Tryz.prog 119 #[.func (.yield l) #[] #[],.pointer (some ⟨Bs,0,none⟩)] W fun e W'=>(∃ v,e = .returned v) /\
      ((∃ ys:List RJ,ys.map (·.1.2)=xs.reverse/\J ys W') \/ (∃ pre:List RJ,(∃ k,k<=xs.length/\pre.map (·.1.2)=xs.reverse.take k)/\Jx pre W')):=by
  have i1:(xs.length:Int)<=1000:=by omega
  have HC:=Lib.hid hc
  clear hc
  refine callsIn_of_wp Tryz.func119 rfl hf ?_ hro
  simp only [Tryz.ntmps119,List.size_toArray,List.length_cons,List.length_nil,Nat.reduceAdd,Nat.reduceSub,Array.replicate_succ,Array.replicate_zero,List.push_toArray,List.append_toArray,List.nil_append,List.cons_append]
  gi_wp2
  gi_loopw [3] (fun i wr=>∃ (k:Nat) (z:Int) (pre:List RJ),k<=xs.length/\z=(xs.length:Int) - 1 - k/\i = .int .i64 z/\pre.map (·.1.2)=xs.reverse.take k/\J pre wr/\KeepX gk n₀ W wr)
    (fun i _=>(intOf i+1).toNat)
  case atStart=>exact ⟨0,_,[],Nat.zero_le _,by simp,rfl,rfl,h0,Keeps.refl _ _⟩
  case round =>
    obtain ⟨k,z,pre,hk,hz,rfl,hp,hJs,hnx⟩:=hrel
    have hbs:wr.cell? ⟨Bs,0,none⟩=some (.slice p xs.length c):=hnx.cell hBs hBk hBn
    by_cases hlt:k<xs.length
    · obtain ⟨t,ht⟩:∃ t,t=xs.length - 1 - k:=⟨_,rfl⟩
      obtain rfl:z=(t:Nat):=by omega
      have htl:t<xs.length:=by omega
      have hxt:xs[t]? = some xs[t]:=List.getElem?_eq_getElem htl
      have hrev:=rev_at hlt ht hxt
      have hpl:pre.length<xs.length:=by
        have:=congrArg List.length hp
        rw [List.length_map,List.length_take,List.length_reverse] at this;omega
      obtain ⟨g,o,hpp,hgk,hg,c0,c1⟩:=HC.out t _ hxt
      have hLx:=hL _ (List.getElem_mem htl)
      subst hpp
      generalize xs[t]=x at hLx c0 c1 hrev
      obtain ⟨xa,xb⟩:=x
      replace c0:=hnx.cell c0 hgk hg
      replace c1:=hnx.cell c1 hgk hg
      obtain ⟨fn,tmps,assign,body,hy,hR⟩:=hY pre ⟨((t:Int),(xa,xb)),hLx⟩ wr hJs hpl
      dsimp only [encR,encJ] at hy
      have k1:(t:Int)<(xs.length:Int):=by omega
      have k0:(0:Int)<=(t:Int):=by omega
      have HT:=Lib.hid ht
      have HR:=Lib.hid hrev
      have HP:=Lib.hid hp
      have HNX:=Lib.hid hnx
      clear hz ht hrev hp hnx
      gi_wp2
      refine hR.mono ?_
      rintro e W3 (⟨rfl,hJ3,hk3⟩ | ⟨rfl,hJx3⟩)
      · gi_wp2
        go_roundw
        case rel=>exact ⟨k+1,_,pre ++ [⟨((t:Int),(xa,xb)),hLx⟩],by omega,by have:=HT.out;omega,rfl,by rw [List.map_append,HP.out,HR.out];rfl,hJ3,HNX.out.trans hk3⟩
        case measure=>simp [intOf]
      · gi_wp2
        refine bodyPost_ret (results_none rfl _ _ _) rfl ?_
        exact ⟨⟨_,rfl⟩,.inr ⟨_,⟨k+1,by omega,by rw [List.map_append,HP.out,HR.out];rfl⟩,hJx3⟩⟩
    · obtain rfl:k=xs.length:=by omega
      obtain rfl:z = -1:=by omega
      clear hz
      gi_wp2
      go_end0
      exact ⟨⟨_,rfl⟩,.inl ⟨_,by rw [hp,List.take_of_length_le (by simp)],hJs⟩⟩
set_option maxRecDepth 100000 in
theorem backJ_any (p:Option Addr) (n c:Nat) (w:World) :
    Calls Tryz.prog 61 #[.slice p n c] w fun e w'=>e = .returned (.func (.func 119) #[] #[.pointer (some ⟨w.heap.size,0,none⟩)])/\w' = w.alloc (.cells #[.slice p n c] 23):=by
  go_enter Tryz.func61,Tryz.ntmps61
  go_wp2_with fail
  go_ret
  exact ⟨rfl,rfl⟩
theorem backJ1_enters:Expr.Enters 119:=enters_of Tryz.func119 (by kernel_rfl) rfl
def upd (f:Nat->Nat) (x:Nat × Nat):Nat->Nat:=fun i=>if i=x.1 then x.2 else f i
def knF (l:List (Nat × Nat)):Nat->Nat:=l.foldl upd fun _=>0
def knC (f:Nat->Nat):Array Value:=((List.range 256).map fun i=>Value.int .u64 (f i:Nat)).toArray
theorem knC_at (f:Nat->Nat) {i:Nat} (h:i<256):(knC f)[i]? = some (.int .u64 (f i:Nat)):=by simp [knC,h]
theorem knC_put (f:Nat->Nat) (x:Nat × Nat):(knC f).setIfInBounds x.1 (.int .u64 (x.2:Nat))=knC (upd f x):=by
  apply Array.ext
  · simp [knC]
  · intro i h3 h4
    by_cases e:x.1=i
    · subst e;simp [knC,upd]
    · have e':¬ i=x.1:=fun h=>e h.symm
      simp [knC,upd,e,e']
theorem knC_zero:knC (fun _=>0)=Tryz.zeroCells115:=by kernel_rfl
theorem knF_snoc (l:List (Nat × Nat)) (x:Nat × Nat):knF (l ++ [x])=upd (knF l) x:=by simp [knF]
theorem keepX_b {gk n₀:Nat} {w:World} (hn:n₀<=w.heap.size) (W:World) (l:Nat) (o o':Obj) (hl:w.heap.size<=l) (_:W.heap[l]? = some o) (_:o.isCells=false) (_:o.isWalk=false):KeepX gk n₀ W (W.putObj l o') :=
  ⟨rfl,rfl,rfl,by simp [World.putObj],fun b _ hx=>by simp only [World.putObj];exact Array.getElem?_setIfInBounds_ne (fun e=>hx (.inr (by omega)))⟩
theorem sits_from {β:Type} (B g:Nat) (t:TypeId) (f:β->Array Value):OwnFrom B (fun s W=>Sits W g t (f s)):=fun s W W' row hs hg hr =>
  hs.grown hg (fun e=>by
    obtain ⟨_,o,ho,hc⟩:=hr g e
    unfold Sits at hs
    rw [hs] at ho
    injection ho with ho
    subst ho
    simp [Obj.isCells] at hc)
theorem keeps_below {B:Nat} {W W':World} (h:Below W.heap.size W W'):KeepsFrom B W W':=⟨h.size,fun k o _ hk _=>(h.block k (by
  rcases Nat.lt_or_ge k W.heap.size with hlt | hge
  · exact hlt
  · rw [Array.getElem?_eq_none hge] at hk;cases hk)).trans hk⟩
structure StAt (w:World) (tc:Array Value) (f:Nat->Nat) (W:World):Prop where
  test:Sits W w.heap.size 27 tc
  known:Sits W (w.heap.size+1) 115 (knC f)
  low:Below w.heap.size w W
section
variable {w W W' : World} {tc : Array Value} {f : Nat → Nat}
theorem StAt.grown (h:StAt w tc f W) (hb:Below W.heap.size W W'):StAt w tc f W':=⟨h.test.below hb h.test.lt,h.known.below hb h.known.lt,h.low.trans (hb.mono h.low.size)⟩
theorem stAt_from {β:Type} (B:Nat) (hB:w.heap.size<=B) (f:β->Nat->Nat):OwnFrom B (fun s W=>StAt w tc (f s) W):=fun s W W' row hs hg hr =>
  ⟨sits_from B _ _ (fun _:Unit=>tc) () W W' row hs.test hg hr,sits_from B _ _ (fun s=>knC (f s)) s W W' row hs.known hg hr,hs.low.grown hg hs.low.size (fun k e=>by have:=(hr k e).1;omega)⟩
theorem StAt.put (h:StAt w tc f W) (x:Nat × Nat):StAt w tc (upd f x) (W.setCell ⟨w.heap.size+1,x.1,none⟩ (.int .u64 (x.2:Nat))) :=
  ⟨h.test.far (show w.heap.size≠w.heap.size+1 by omega) _,by have:=h.known.put x.1 (.int .u64 (x.2:Nat));rwa [knC_put] at this,h.low.setCell (p:=⟨w.heap.size+1,x.1,none⟩) (by show w.heap.size<=w.heap.size+1;omega) _⟩
theorem StAt.taken (h:StAt w tc f W) {D:Nat} (hD:w.heap.size+2<=D) (o:Obj):StAt w tc f (W.putObj D o) :=
  ⟨(World.putObj_heap_other (by omega)).trans h.test,(World.putObj_heap_other (by omega)).trans h.known,h.low.grown (grownBy_putObj' W D o) h.low.size (fun k e=>by cases e;omega)⟩
end
theorem inits_at {w:World} {p:Option Addr} {c:Nat} {xs:List (Nat × Nat)} (h:Inits w (.slice p xs.length c) xs) {W:World} (hb:Below w.heap.size w W) {gk n₀:Nat} (hg:w.heap.size<=gk) (hn:w.heap.size<=n₀):InitsAt W gk n₀ p xs:=fun k x hx=>by
  obtain ⟨g,o,cap,ev,h0,h1⟩:=h.at hx
  injection ev with ev1 _ _
  have l0:=World.block_lt_of_cell? w _ h0
  have l0:g<w.heap.size:=l0
  exact ⟨g,o,ev1,by omega,by omega,(hb.cell (p:=⟨g,o+k * 2,none⟩) l0).trans h0,(hb.cell (p:=⟨g,o+k * 2+1,none⟩) l0).trans h1⟩
def zerosU (n:Nat):Array Value:=madeCells #[.int .u64 0] n
theorem u64Info:(Tryz.prog.info? 50).map (fun i=>(i.zero,i.size,i.bytes))=some (some (.int .u64 0),1,8):=by kernel_rfl
set_option maxRecDepth 100000 in
theorem madeU (w:World) (n:Nat) (hn:n<=1000):(Instr.makeSlice 47 (.int .i64 (n:Nat)) (.int .i64 (n:Nat))).run Tryz.prog w = .ok (.slice (some ⟨w.heap.size,0,none⟩) n n) (w.alloc (.cells (zerosU n) 50)):=by
  obtain ⟨i0,hi,hz0,hz1,hz2⟩:=info_parts u64Info
  have h:=run_make (P:=Tryz.prog) w 47 50 i0 (.int .u64 0) Tryz.underlying47 hi hz0 .i64 .i64 (n:Nat) (n:Nat) (by omega) (by omega) (by rw [hz2];omega) (by omega)
  rw [hz1] at h
  rw [h]
  have e:zerosU n=madeCells (Value.int .u64 0).cells (Int.toNat (n:Int) * 1):=by
    show madeCells _ n=madeCells _ _
    congr 1
    omega
  rw [e];rfl
theorem zerosU_at (n j:Nat) (hj:j<n):(zerosU n)[j]? = some (.int .u64 0):=by
  unfold zerosU
  rw [<- Array.getElem?_toList,toList_madeCells_one,List.getElem?_replicate,if_pos hj]
def vals (L:List Nat) (i:Nat):Array Value:=((List.range L.length).map fun j=>Value.int .u64 ((if j<i then L.getD j 0 else 0:Nat):Int)).toArray
theorem vals_zero (L:List Nat):vals L 0=zerosU L.length:=by
  apply Array.ext
  · simp [vals,zerosU,madeCells]
  · intro i h1 h2
    have hi:i<L.length:=by simpa [vals] using h1
    have e1:(zerosU L.length)[i]? = some (.int .u64 0):=zerosU_at _ _ hi
    rw [Array.getElem?_eq_getElem h2] at e1
    rw [Option.some.inj e1]
    simp [vals]
theorem vals_at (L:List Nat) {i:Nat} (h:i<L.length):(vals L i)[i]? = some (.int .u64 0):=by simp [vals,h]
theorem vals_put (L:List Nat) {i n:Nat} (h:L[i]? = some n):(vals L i).setIfInBounds i (.int .u64 (n:Nat))=vals L (i+1):=by
  obtain ⟨hl,he⟩:=List.getElem?_eq_some_iff.1 h
  apply Array.ext
  · simp [vals]
  · intro j h1 h2
    by_cases e:i=j
    · subst e;simp [vals,List.getD_eq_getElem?_getD,h]
    · have e2:j<i+1 ↔ j<i:=by omega
      simp [vals,e,e2]
theorem vals_end (L:List Nat) {j n:Nat} (h:L[j]? = some n):(vals L L.length)[j]? = some (.int .u64 (n:Nat)):=by
  obtain ⟨hl,he⟩:=List.getElem?_eq_some_iff.1 h
  simp [vals,hl,he]
set_option maxRecDepth 100000 in
set_option maxHeartbeats 4000000 in
theorem start_any (t:Ts) (ht:t.small) (locs:List UInt8) (hl:locs.length<=1000) (vi vt va:Value) (w:World) (hV:TestV w t vi vt va) :
    Calls Tryz.prog 18 #[testAgg vi vt t.all va,.string (str locs)] w fun e w'=>∃ v,e = .returned v/\URow w' v (locs.map fun c=>knF t.init.reverse c.toNat)/\Below w.heap.size w w':=by
  obtain ⟨pi,ci,rfl⟩:=hV.init.len
  obtain ⟨pt,ct,rfl⟩:=hV.threads.len
  obtain ⟨pa,rfl,_⟩:=hV.ask.ptr
  simp only [testAgg]
  have H0:Hid (StAt w #[.slice pi t.init.length ci,.slice pt t.threads.length ct,.bool t.all,.pointer pa] (knF []) ((w.alloc (.cells #[.slice pi t.init.length ci,.slice pt t.threads.length ct,.bool t.all,.pointer pa] 27)).alloc (.cells Tryz.zeroCells115 115))):=Lib.hid
    ⟨(Sits.new _ _ _).alloc _,by rw [show knC (knF [])=Tryz.zeroCells115 from knC_zero];exact Sits.made (by simp) _ _,((Below.refl _ w).alloc (Nat.le_refl _) _).alloc (by simp) _⟩
  have HI:=Lib.hid hV.init
  have HE:=Lib.hid (fun x hx=>(ht.each x hx).1)
  have HN:=Lib.hid ht.init
  have HLL:=Lib.hid hl
  clear hV ht hl
  refine (callsIn_wide (n:=5)).1 ?_
  refine callsIn_of_wp_marks Tryz.func18 rfl trivial ?_ rfl
  simp only [Tryz.ntmps18,List.size_toArray,List.length_cons,List.length_nil,Nat.reduceAdd,Nat.reduceSub,Array.replicate_succ,Array.replicate_zero,List.push_toArray,List.append_toArray,List.nil_append,List.cons_append]
  refine wpIn_wide.2 ?_
  go_wp2_with fail
  generalize ((w.alloc (.cells #[.slice pi t.init.length ci,.slice pt t.threads.length ct,.bool t.all,.pointer pa] 27)).alloc (.cells Tryz.zeroCells115 115))=w1 at H0 ⊢
  refine (backJ_any _ _ _ _).mono ?_
  rintro e w2 ⟨rfl,rfl⟩
  go_wp2_with fail
  have HB2:=Lib.hid (H0.out.grown ((Below.refl _ w1).alloc (Nat.le_refl _) (.cells #[.slice pi t.init.length ci] 23)))
  have HSB:=Lib.hid (Sits.new w1 23 #[.slice pi t.init.length ci])
  have hsz:w.heap.size+2<(w1.alloc (.cells #[.slice pi t.init.length ci] 23)).heap.size:=by have:=H0.out.known.lt;simp;omega
  have HSZ:=Lib.hid hsz
  have HSBN:=Lib.hid (show w.heap.size+1<w1.heap.size from H0.out.known.lt)
  generalize w1.heap.size=sb at HSB HSBN ⊢
  generalize w1.alloc (.cells #[.slice pi t.init.length ci] 23)=W0 at HB2 HSB HSZ ⊢
  clear hsz H0
  refine (wpIn_wide (n:=5)).1 ?_
  refine wpIn_rangeFunc_ownH (α:=RJ) rfl (by decide) (gf:=119) (lb:=#[.pointer (some ⟨sb,0,none⟩)]) rfl trivial backJ1_enters
    (encs:=encR) (Kp:=KeepX (w.heap.size+1) W0.heap.size) (S:=fun ys=>ys.map (·.1.2)=t.init.reverse) (Sp:=fun pre=>∃ k,k<=t.init.length/\pre.map (·.1.2)=t.init.reverse.take k) (N:=t.init.length) (w0:=W0)
    (fun l Jr Jx W hW _ _ hY h0=>backJ1_in Fence.wide 4 trivial rfl (by decide) l sb (w.heap.size+1) W0.heap.size ci pi t.init HN.out HE.out HSB.out.lt (by have:=HSBN.out;omega) Jr Jx hY W
      ((hW.cell (p:=⟨sb,0,none⟩) HSB.out.lt).trans (HSB.out.cell 0)) (inits_at HI.out (HB2.out.low.trans (hW.mono HB2.out.low.size)) (by omega) HB2.out.low.size) h0)
    KeepX.trans (keepX_b (Nat.le_refl _)) (Below.refl _ _) (fun _=>rfl)
    (fun pre W=>StAt w #[.slice pi t.init.length ci,.slice pt t.threads.length ct,.bool t.all,.pointer pa] (knF (pre.map (·.1.2))) W/\W0.heap.size<=W.heap.size)
    (fun _ _ _=>False)
    (fun s W W' row hs hg hr=>⟨stAt_from W0.heap.size HB2.out.low.size (fun pre:List RJ=>knF (pre.map (·.1.2))) s W W' row hs.1 hg hr,Nat.le_trans hs.2 hg.size⟩)
    (fun q s W W' row hs hg hr=>hs.elim)
    ⟨HB2.out,Nat.le_refl _⟩
    (fun x a' W=>∃ Bx,W0.heap.size<=Bx/\Sits W Bx 53 #[.int .u8 x.1.2.1,.int .u64 x.1.2.2]/\a' = { tmps:=#[.agg #[.slice pi t.init.length ci,.slice pt t.threads.length ct,.bool t.all,.pointer pa],.string (str locs),.pointer (some ⟨w.heap.size,0,none⟩),undef,.slice none 0 0,.pointer (some ⟨w.heap.size+1,0,none⟩),undef,.pointer (some ⟨Bx,0,none⟩),undef,undef,.pointer (some ⟨w.heap.size,0,none⟩),.slice pi t.init.length ci,.func (.func 119) #[] #[.pointer (some ⟨sb,0,none⟩)],.int .i64 x.1.1,.agg #[.int .u8 x.1.2.1,.int .u64 x.1.2.2],undef,undef,undef,undef,undef,undef,undef,undef,undef,undef,undef,undef,undef,undef,undef,undef,undef,undef,undef,undef,undef,undef,undef],defers:=[] })
    (fun x a' _ X Y row hs hg hr=>by obtain ⟨Bx,h1,h2,h3⟩:=hs;exact ⟨Bx,h1,sits_from W0.heap.size Bx _ (fun _:Unit=>#[.int .u8 x.1.2.1,.int .u64 x.1.2.2]) () X Y row h2 hg hr,h3⟩)
    ?assign ?body ?done ?stop
  case assign =>
    rintro l pre x W K ⟨hA,hz⟩ hK
    gi_wp2
    exact hK _ _ (keeps_below ((Below.refl _ W).alloc (Nat.le_refl _) _)) (Keeps.of_below ((Below.refl _ W).alloc (Nat.le_refl _) _)) ⟨hA.grown ((Below.refl _ W).alloc (Nat.le_refl _) _),by simp;omega⟩ ⟨W.heap.size,hz,Sits.new _ _ _,rfl⟩
  case body =>
    rintro l pre x a' W hlw ⟨r,hr⟩ ⟨hA,hz⟩ ⟨Bx,hBx,hSx,rfl⟩ hlt
    obtain ⟨⟨q,xa,xb⟩,hx⟩:=x
    dsimp only at hx hSx ⊢
    have c0:W.cell? ⟨Bx,0,none⟩=some (.int .u8 (xa:Nat)):=hSx.cell 0
    have c1:W.cell? ⟨Bx,1,none⟩=some (.int .u64 (xb:Nat)):=hSx.cell 1
    have lx:=hSx.lt
    have k0:W.cell? ⟨w.heap.size+1,xa,none⟩=some (.int .u64 (knF (pre.map (·.1.2)) xa:Nat)):=(hA.known.cell xa).trans (knC_at _ hx)
    have f0:=hA.known.free xa
    have lk:=hA.known.lt
    have i1:(xa:Int)<256:=by omega
    have i0:(0:Int)<=(xa:Int):=by omega
    have HP:=Lib.hid (hA.put (xa,xb))
    have HS0:=Lib.hid hz
    have HK:=Lib.hid (show KeepX (w.heap.size+1) W0.heap.size W (W.setCell ⟨w.heap.size+1,xa,none⟩ (.int .u64 (xb:Nat))) from (Keeps.refl _ W).put (p:=⟨w.heap.size+1,xa,none⟩) (.inl (.inl rfl)) _)
    have HSN:=Lib.hid (show knF ((pre ++ [(⟨(q,(xa,xb)),hx⟩:RJ)]).map (·.1.2))=upd (knF (pre.map (·.1.2))) (xa,xb) by rw [List.map_append,List.map_singleton,knF_snoc])
    clear hA hSx hz hr
    gi_wp2
    exact ⟨(KeepsOthers.setCell _ _ _).from _,HK.out,by rw [HSN.out];exact HP.out,by simpa [World.setCell] using HS0.out⟩
  case stop =>
    rintro D q pre W hD _ hF
    exact hF.elim
  case done =>
    rintro D ys W hD hS ⟨hA,hz⟩ hK
    rw [hS] at hA
    have HA:=Lib.hid hA
    have HD:=Lib.hid (show w.heap.size+2<=D by have:=HSZ.out;omega)
    have HK:=Lib.hid hK
    have HLL2:(locs.length:Int)<=1000:=by have:=HLL.out;omega
    have hsl:(str locs).size=locs.length:=by simp [str,ByteArray.size]
    clear hA hS hz hK hD
    have hmk:=fun W=>madeU W locs.length HLL.out
    have HSX:=Lib.hid (show ∀ (i:Nat) (c:UInt8),locs[i]? = some c->(str locs).data[i]? = some c from fun i c h=>by simpa [str] using h)
    generalize str locs=S at hsl HSX ⊢
    have HV0:=Lib.hid (show Sits (W.alloc (.cells (zerosU locs.length) 50)) W.heap.size 50 (vals (locs.map fun c=>knF t.init.reverse c.toNat) 0) from by rw [vals_zero,List.length_map];exact Sits.new _ _ _)
    have HA0:=Lib.hid (HA.out.grown ((Below.refl _ W).alloc (Nat.le_refl _) (.cells (zerosU locs.length) 50)))
    have HK0:=Lib.hid (show (W.alloc (.cells (zerosU locs.length) 50)).heap[D]? = some (.deferred (some [])) from (Below.heap_alloc W _ D (Array.getElem?_eq_some_iff.1 HK.out).1).trans HK.out)
    have HDV:=Lib.hid (show D<W.heap.size from (Array.getElem?_eq_some_iff.1 HK.out).1)
    have HGV:=Lib.hid (show w.heap.size+1<W.heap.size from HA.out.known.lt)
    go_wp2_with fail
    generalize W.alloc (.cells (zerosU locs.length) 50)=W1 at HV0 HA0 HK0 ⊢
    generalize W.heap.size=gv at HV0 HDV HGV ⊢
    go_loopg [25] locs.length (fun gg v25 wx=>∃ i,i<=locs.length/\gg=locs.length - i/\v25 = .int .i64 (i:Nat)/\Hid (Sits wx gv 50 (vals (locs.map fun c=>knF t.init.reverse c.toNat) i))/\Hid (StAt w #[.slice pi t.init.length ci,.slice pt t.threads.length ct,.bool t.all,.pointer pa] (knF t.init.reverse) wx)/\Hid (wx.heap[D]? = some (.deferred (some []))))
    case atStart=>exact ⟨0,by omega,by omega,rfl,HV0,HA0,HK0⟩
    case round =>
      obtain ⟨i,hi,rfl,rfl,HV,HA,HK⟩:=hrel
      by_cases hlt:i<locs.length
      · have hc:locs[i]? = some locs[i]:=List.getElem?_eq_getElem hlt
        generalize locs[i]=c at hc
        have c256:c.toNat<256:=c.toNat_lt
        have k0:wr.cell? ⟨w.heap.size+1,c.toNat,none⟩=some (.int .u64 (knF t.init.reverse c.toNat:Nat)):=(HA.out.known.cell c.toNat).trans (knC_at _ c256)
        have lk:=HA.out.known.lt
        have v0:wr.cell? ⟨gv,i,none⟩=some (.int .u64 0):=(HV.out.cell i).trans (vals_at _ (by simpa using hlt))
        have f0:=HV.out.free i
        have lv:=HV.out.lt
        have hbd:i<S.size:=by omega
        have hd:S[i]'hbd=c:=by
          have:=HSX.out i c hc
          rw [Array.getElem?_eq_getElem (by exact hbd)] at this
          exact Option.some.inj this
        have m256:(c.toNat:Int)<256:=by omega
        have HI:=Lib.hid hlt
        have HVP:=Lib.hid (vals_put (locs.map fun c=>knF t.init.reverse c.toNat) (i:=i) (n:=knF t.init.reverse c.toNat) (by rw [List.getElem?_map,hc];rfl))
        have HAN:=Lib.hid (show StAt w #[.slice pi t.init.length ci,.slice pt t.threads.length ct,.bool t.all,.pointer pa] (knF t.init.reverse) (wr.setCell ⟨gv,i,none⟩ (.int .u64 (knF t.init.reverse c.toNat:Nat))) from ⟨HA.out.test.far (show w.heap.size≠gv by have:=HGV.out;omega) _,HA.out.known.far (show w.heap.size+1≠gv by have:=HGV.out;omega) _,HA.out.low.setCell (p:=⟨gv,i,none⟩) (by have:=HGV.out;show w.heap.size<=gv;omega) _⟩)
        have HVN:=Lib.hid (HV.out.put i (.int .u64 (knF t.init.reverse c.toNat:Nat)))
        have HKN:=Lib.hid ((Below.heap_setCell wr ⟨gv,i,none⟩ (.int .u64 (knF t.init.reverse c.toNat:Nat)) D (by show D≠gv;have:=HDV.out;omega)).trans HK.out)
        clear hc hlt hi
        have i1:(i:Int)<(locs.length:Int):=by omega
        have i2:(0:Int)<=(i:Int):=by omega
        go_wp2_with fail
        go_roundg (locs.length - (i+1))
        case measure=>have:=HI.out;omega
        case rel=>exact ⟨i+1,HI.out,rfl,by go_num,Lib.hid (by rw [<- HVP.out];exact HVN.out),HAN,HKN⟩
      · obtain rfl:i=locs.length:=by omega
        have HF:=Lib.hid (show URow (wr.putObj D (.deferred none)) (.slice (some ⟨gv,0,none⟩) locs.length locs.length) (locs.map fun c=>knF t.init.reverse c.toNat)/\Below w.heap.size w (wr.putObj D (.deferred none)) from
          ⟨.inr ⟨gv,0,locs.length,by rw [List.length_map],by rw [List.length_map];have:=HLL.out;omega,fun j a hj=>by
            rw [Nat.zero_add,World.cell?_of_block (World.putObj_heap_other (by have:=HDV.out;show gv≠D;omega))]
            have:=HV.out.cell j
            rw [this]
            have e:=vals_end _ hj
            rwa [List.length_map] at e⟩,(HA.out.taken HD.out _).low⟩)
        have HKD:=Lib.hid HK.out
        clear hlt hi HV HA HK
        go_wp2_with fail
        refine ⟨by simp,.inl ⟨_,_,rfl,run_takeDeferred HKD.out,?_⟩⟩
        exact ⟨.slice (some ⟨gv,0,none⟩) locs.length locs.length,by simp [results,Tryz.results18,go_sem],⟨_,rfl,HF.out.1,HF.out.2⟩⟩
end Go.Proofs.YtbkdappgmcebaaaGreatDoor.Chk
end
section
namespace Go.Proofs.YtbkdappgmcebaaaGreatDoor.Chk
open Go.Proofs.YtbkdappgmcebaaaGreatDoor.Expr Go.Proofs.YtbkdappgmcebaaaGreatDoor.Prog Go.Proofs.YtbkdappgmcebaaaGreatDoor.Prs
open Go.Proofs.YtbkdappgmcebaaaGreatDoor.Lex (Tok)
theorem dec0:dec 0=[48]:=dec_small (by decide)
theorem dec1:dec 1=[49]:=dec_small (by decide)
theorem dec3:dec 3=[51]:=dec_small (by decide)
def ctext1:List UInt8:=[105,110,105,116,32,120,32,61,32,51,59,32,116,104,114,101,97,100,32,123,32,115,116,111,114,101,40,121,44,32,49,44,32,114,108,120,41,59,32,125,32,101,120,105,115,116,115,32,120,59]
def ctoks1:List Lex.Tok:=[⟨2,[105,110,105,116],0,1,1⟩,⟨2,[120],0,1,6⟩,⟨3,[61],0,1,8⟩,⟨1,[51],3,1,10⟩,⟨3,[59],0,1,11⟩,⟨2,[116,104,114,101,97,100],0,1,13⟩,⟨3,[123],0,1,20⟩,⟨2,[115,116,111,114,101],0,1,22⟩,⟨3,[40],0,1,27⟩,⟨2,[121],0,1,28⟩,⟨3,[44],0,1,29⟩,⟨1,[49],1,1,31⟩,⟨3,[44],0,1,32⟩,⟨2,[114,108,120],0,1,34⟩,⟨3,[41],0,1,37⟩,⟨3,[59],0,1,38⟩,⟨3,[125],0,1,40⟩,⟨2,[101,120,105,115,116,115],0,1,42⟩,⟨2,[120],0,1,49⟩,⟨3,[59],0,1,50⟩,⟨0,[],0,1,51⟩]
def ctest1:Ts:=⟨[(120,3)],[.cons ⟨3,0,2,121,some (.num 1),none⟩ .nil .nil .nil],false,some (.loc 120)⟩
theorem clex1:Lex.lexAll ctext1 = .ok ctoks1:=by kernel_rfl
theorem craws1:ctoks1.map raw=rawsT ctest1:=by
  simp [rawsT,ctest1,threadR,rawsB,exR,rawsE,sg,wd,ctoks1,raw,rawEnd,initR,headR,nm,dec1,dec3,modeTxt,wStore,wInit,wThread,wExists]
def ctext2:List UInt8:=[116,104,114,101,97,100,32,123,32,125,32,101,120,105,115,116,115,32,49,58,114,48,59]
def ctoks2:List Lex.Tok:=[⟨2,[116,104,114,101,97,100],0,1,1⟩,⟨3,[123],0,1,8⟩,⟨3,[125],0,1,10⟩,⟨2,[101,120,105,115,116,115],0,1,12⟩,⟨1,[49],1,1,19⟩,⟨3,[58],0,1,20⟩,⟨2,[114,48],0,1,21⟩,⟨3,[59],0,1,23⟩,⟨0,[],0,1,24⟩]
def ctest2:Ts:=⟨[],[.nil],false,some (.of 1 0)⟩
theorem clex2:Lex.lexAll ctext2 = .ok ctoks2:=by kernel_rfl
theorem craws2:ctoks2.map raw=rawsT ctest2:=by
  simp [rawsT,ctest2,threadR,rawsB,exR,rawsE,sg,wd,ctoks2,raw,rawEnd,nm,dec0,dec1,wThread,wExists]
theorem cprints1:Prints ctest1:=by
  refine ⟨⟨?_,?_,rfl,?_⟩,?_,?_,by decide,?_⟩
  · intro i hi
    obtain rfl:i=(120,3):=by simpa [ctest1] using hi
    exact ⟨by decide,by decide⟩
  · intro b hb
    obtain rfl:b=_:=by simpa [ctest1] using hb
    refine ⟨?_,by decide⟩
    simp [Blk.proper,Mk.proper,okO,Ex.ok,Ex.depth,isLetter]
  · exact ⟨by simp [Ex.ok],by decide⟩
  · intro i hi
    obtain rfl:i=(120,3):=by simpa [ctest1] using hi
    exact ⟨by decide,by decide⟩
  · intro b hb
    obtain rfl:b=_:=by simpa [ctest1] using hb
    exact ⟨⟨trivial,trivial,by decide,by decide⟩,trivial,trivial,trivial⟩
  · rfl
theorem cprints2:Prints ctest2:=by
  refine ⟨⟨?_,?_,rfl,?_⟩,?_,?_,by decide,?_⟩
  · intro i hi;simp [ctest2] at hi
  · intro b hb
    obtain rfl:b=Blk.nil:=by simpa [ctest2] using hb
    exact ⟨trivial,by decide⟩
  · exact ⟨by simp [Ex.ok],by decide⟩
  · intro i hi;simp [ctest2] at hi
  · intro b hb
    obtain rfl:b=Blk.nil:=by simpa [ctest2] using hb
    trivial
  · rfl
theorem known_all {s:List UInt8} {ts:List Lex.Tok} {t:Ts} (hl:Lex.lexAll s = .ok ts) (hr:ts.map raw=rawsT t) (hp:Prints t):parseAll s = .ok t:=by
  obtain ⟨k,h⟩:=tx_inits_at hp t.init [] 0 rfl (fun i hi=>⟨hp.proper.init i hi,(hp.init i hi).1⟩) (at_raws hr)
  exact parseAll_ok hl (txOut_is h)
theorem call1:parseAll ctext1 = .ok ctest1:=known_all clex1 craws1 cprints1
theorem call2:parseAll ctext2 = .ok ctest2:=known_all clex2 craws2 cprints2
theorem plain_fine:∀ {b:Blk},b.proper->plainB b->b.fine:=by
  intro b
  induction b with
  | nil=>intro _ _;trivial
  | cons m t e r iht ihe ihr =>
    rintro ⟨h1,h2,h3,h4,h5,h6⟩ ⟨p1,p2,p3,p4⟩
    have hm:=h1.2.2
    have hloc:m.loc<256/\m.mode<256/\m.kind<256:=by
      unfold isLetter at hm
      split at hm <;> first | exact hm.elim | (rename_i hk;omega)
    exact ⟨h1.1,h1.2.1,by have:=p1.reg;omega,hloc.2.1,hloc.1,hloc.2.2,iht h2 p2,ihe h3 p3,ihr h4 p4⟩
theorem read_small {t:Ts} (h:Prs.Read t):t.small where
  init:=h.init
  each:=fun i hi=>⟨by have:=(h.prints.proper.init i hi).2;omega,(h.prints.init i hi).2⟩
  threads:=by have:=h.prints.few;omega
  fine:=fun b hb=>⟨plain_fine (h.prints.proper.threads b hb).1 (h.prints.threads b hb),by have:=h.each b hb;omega⟩
  ask:=h.prints.proper.ask
theorem ccheck1:checkE ctest1=0/\checkL ctest1=[120,121]:=by
  constructor <;> kernel_rfl
theorem ccheck2:checkE ctest2=7:=by kernel_rfl
theorem cstart1:([120,121]:List UInt8).map (fun c=>knF ctest1.init.reverse c.toNat)=[3,0]:=by kernel_rfl
end Go.Proofs.YtbkdappgmcebaaaGreatDoor.Chk
end
