/- Part 33 of the proof: what is used of the texts ChkH, ChkI, ChkJ, ChkR. -/
import Derived.Test.YtbkdappgmcebaaaGreatDoorLD0
import Derived.Test.YtbkdappgmcebaaaGreatDoorLD1
import Derived.Test.YtbkdappgmcebaaaGreatDoorLC9
section
namespace Go.Proofs.YtbkdappgmcebaaaGreatDoor.Chk
open Go.RowKit Go.Proofs.YtbkdappgmcebaaaGreatDoor.Mem Go.Proofs.YtbkdappgmcebaaaGreatDoor.Expr Go.Proofs.YtbkdappgmcebaaaGreatDoor.Prog Go.Lib
set_option maxRecDepth 100000 in
theorem loc1_any (m:Mk) (pa pb pt pe:Option Addr) (nt ct ne ce g:Nat) (s:Let) (w:World) (hB:Sits w g 167 (letC s)) :
    Calls Tryz.prog 114 #[stAgg m (.pointer pa) (.pointer pb) (.slice pt nt ct) (.slice pe ne ce),.pointer (some ⟨g,0,none⟩)] w (ToldS g 167 (letC (locR m nt ne s)) w):=by
  have HP:=Lib.hid (fun o=>put_any g m.loc s (w.alloc o) (hB.alloc o))
  have HK:=Lib.hid (fun o=>(Keeps.refl (fun x=>x=g) w).alloc o)
  unfold locR
  generalize putL m.loc s=s2 at HP ⊢
  clear hB
  simp only [stAgg]
  go_enter Tryz.func114,Tryz.ntmps114
  go_wp2_with fail
  refine (HP.out _).mono ?_
  rintro e w' ⟨rfl,hs,hk⟩
  have HR:=Lib.hid (show ToldS g 167 (letC s2) w (.returned (.tuple #[])) w' from ⟨rfl,hs,(HK.out _).trans hk⟩)
  clear hs hk
  go_wp2_with fail
  go_end0
  exact HR.out
theorem loc1_enters:Expr.Enters 114:=enters_of Tryz.func114 (by kernel_rfl) rfl
theorem loc1_tale {W0:World} {g:Nat}:Tale 114 g 167 letC locR W0 where
  enters:=loc1_enters
  neE:=by decide
  neS:=by decide
  neK:=by decide
  call:=fun m pa pb pt pe nt ct ne ce s w _ _ _ h1 _ _ _=>loc1_any m pa pb pt pe nt ct ne ce g s w h1
set_option maxRecDepth 100000 in
theorem loc2_any (e:Ex) (g:Nat) (s:Let) (w:World) (hB:Sits w g 167 (letC s)) :
    Calls Tryz.prog 115 #[leafVal e,.pointer (some ⟨g,0,none⟩)] w (ToldS g 167 (letC (leafL e s)) w):=by
  have HP:=Lib.hid (fun o=>put_any g (leafIt e).x s (w.alloc o) (hB.alloc o))
  have HK:=Lib.hid (fun o=>(Keeps.refl (fun x=>x=g) w).alloc o)
  unfold leafL leafVal
  generalize putL (leafIt e).x s=s2 at HP ⊢
  generalize leafIt e=it at HP ⊢
  obtain ⟨q,op,nn,t,i,x⟩:=it
  simp only [exprCells] at HP ⊢
  clear hB
  go_enter Tryz.func115,Tryz.ntmps115
  go_wp2_with fail
  refine (HP.out _).mono ?_
  rintro e w' ⟨rfl,hs,hk⟩
  have HR:=Lib.hid (show ToldS g 167 (letC s2) w (.returned (.tuple #[])) w' from ⟨rfl,hs,(HK.out _).trans hk⟩)
  clear hs hk
  go_wp2_with fail
  go_end0
  exact HR.out
theorem loc2_enters:Expr.Enters 115:=enters_of Tryz.func115 (by kernel_rfl) rfl
theorem loc2_tale {W0:World} {g:Nat}:TaleE 115 g 167 #[.pointer (some ⟨g,0,none⟩)] letC leafL W0 where
  enters:=loc2_enters
  neE:=by decide
  call:=fun e s w _ _ h1 _=>loc2_any e g s w h1
theorem thrL_snoc (l:List Blk) (c:Blk) (m:Let):thrL (l ++ [c]) m=c.fold locR 8 (thrL l m):=by simp [thrL]
set_option maxRecDepth 100000 in
set_option maxHeartbeats 2000000 in
theorem locations_any (t:Ts) (ht:t.small) (vi vt va:Value) (w:World) (hV:TestV w t vi vt va) :
    Calls Tryz.prog 54 #[testAgg vi vt t.all va] w fun e w'=>Made (.returned (.string (str (locsF t)))) w e w':=by
  obtain ⟨pi,ci,rfl⟩:=hV.init.len
  obtain ⟨pt,ct,rfl⟩:=hV.threads.len
  obtain ⟨pa,rfl,_⟩:=hV.ask.ptr
  have hb1:Below w.heap.size w ((w.alloc (.cells #[.slice pi t.init.length ci,.slice pt t.threads.length ct,.bool t.all,.pointer pa] 27)).alloc (.cells (letC noLet) 167)):=((Below.refl _ w).alloc (Nat.le_refl _) _).alloc (by simp) _
  have HB1:=Lib.hid hb1
  have HT1:=Lib.hid (show Sits ((w.alloc (.cells #[.slice pi t.init.length ci,.slice pt t.threads.length ct,.bool t.all,.pointer pa] 27)).alloc (.cells (letC noLet) 167)) w.heap.size 27 #[.slice pi t.init.length ci,.slice pt t.threads.length ct,.bool t.all,.pointer pa] from (Sits.new _ _ _).alloc _)
  have HM1:=Lib.hid (show Sits ((w.alloc (.cells #[.slice pi t.init.length ci,.slice pt t.threads.length ct,.bool t.all,.pointer pa] 27)).alloc (.cells (letC noLet) 167)) (w.heap.size+1) 167 (letC noLet) from Sits.made (by simp) _ _)
  have HV:=Lib.hid hV
  have HF:=Lib.hid (fun c hc=>(ht.fine c hc).1)
  have HO:=Lib.hid ht.ask
  have m1:(t.init.length:Int)<=1000:=by have:=ht.init;omega
  have m2:(t.threads.length:Int)<=1000:=by have:=ht.threads;omega
  clear hV hb1 ht
  simp only [testAgg]
  go_enter Tryz.func54,Tryz.ntmps54
  go_wp2_with fail
  change Code.wp _ _ _ _ ((w.alloc (.cells #[.slice pi t.init.length ci,.slice pt t.threads.length ct,.bool t.all,.pointer pa] 27)).alloc (.cells (letC noLet) 167))
  generalize (w.alloc (.cells #[.slice pi t.init.length ci,.slice pt t.threads.length ct,.bool t.all,.pointer pa] 27)).alloc (.cells (letC noLet) 167)=w1 at HB1 HT1 HM1 ⊢
  generalize hgb:w.heap.size=g at HT1 HM1 ⊢
  have HGB:=Lib.hid hgb
  clear hgb
  go_loopg [11] t.init.length (fun gg v11 wx=>∃ i,i<=t.init.length/\gg=t.init.length - i/\v11 = .int .i64 (i:Nat)/\Hid (Sits wx (g+1) 167 (letC (initL (t.init.take i) noLet)))/\Hid (Sits wx g 27 #[.slice pi t.init.length ci,.slice pt t.threads.length ct,.bool t.all,.pointer pa])/\Hid (Below w.heap.size w wx))
  case atStart=>exact ⟨0,by omega,by omega,rfl,HM1,HT1,HB1⟩
  case round =>
    obtain ⟨i,hi,rfl,rfl,HM,HT,HB⟩:=hrel
    by_cases hlt:i<t.init.length
    · have hc:t.init[i]? = some t.init[i]:=List.getElem?_eq_getElem hlt
      generalize t.init[i]=c at hc
      obtain ⟨a,n⟩:=c
      obtain ⟨gt,ot,cp,ev,h0,h1⟩:=HV.out.init.at hc
      injection ev with ev1 _ ev2
      subst ev1 ev2
      have h0':wr.cell? ⟨gt,ot+i * 2,none⟩=some (.int .u8 (a:Nat)):=(HB.out.cell (p:=⟨gt,ot+i * 2,none⟩) (World.block_lt_of_cell? w _ h0)).trans h0
      have h1':wr.cell? ⟨gt,ot+i * 2+1,none⟩=some (.int .u64 (n:Nat)):=(HB.out.cell (p:=⟨gt,ot+i * 2+1,none⟩) (World.block_lt_of_cell? w _ h1)).trans h1
      have lgt:=World.block_lt_of_cell? wr _ h0'
      have HSN:=Lib.hid (show initL (t.init.take (i+1)) noLet=putL a (initL (t.init.take i) noLet) by rw [take_snoc hc,initL_snoc])
      generalize hml:initL (t.init.take i) noLet=m at HM HSN
      have HB2:=Lib.hid (HB.out.trans ((initBox_low wr a n).mono HB.out.size))
      have HT2:=Lib.hid (HT.out.below (initBox_low wr a n) HT.out.lt)
      have hms:=HM.out.below (initBox_low wr a n) HM.out.lt
      have HPU:=Lib.hid (put_any (g+1) a m _ hms)
      have ib:=initBox_sits wr a n
      have x0:(initBox wr a n).cell? ⟨wr.heap.size,0,none⟩=some (.int .u8 (a:Nat)):=ib.cell 0
      have lx:=ib.lt
      have i1:(i:Int)<(t.init.length:Int):=by omega
      have i2:(0:Int)<=(i:Int):=by omega
      have HI:=Lib.hid hlt
      clear hc h0 h1 hlt hi hml hms ib
      go_wp2_with fail
      change Calls _ _ _ (initBox wr a n) _
      generalize initBox wr a n=w2 at HB2 HT2 HPU x0 lx ⊢
      refine HPU.out.mono ?_
      rintro e w3 ⟨rfl,hs,hk⟩
      have HM3:=Lib.hid hs
      have HT3:=Lib.hid (HT2.out.keep hk (by omega))
      have HB3:=Lib.hid (behind HB2.out hk HB2.out.size (fun x e=>by have:=HGB.out;omega))
      clear hs hk h0' h1' lgt x0 lx
      go_wp2_with fail
      go_roundg (t.init.length - (i+1))
      case measure=>have:=HI.out;omega
      case rel=>exact ⟨i+1,HI.out,rfl,by go_num,Lib.hid (by rw [HSN.out];exact HM3.out),HT3,HB3⟩
    · obtain rfl:i=t.init.length:=by omega
      have hm:=HM.out
      rw [List.take_length] at hm
      have HMM:=Lib.hid (show Sits wr (g+1) 167 (letC (thrL (t.threads.take 0) (initL t.init noLet))) from hm)
      have q1:wr.cell? ⟨g,1,none⟩=some (.slice pt t.threads.length ct):=HT.out.cell 1
      have lq:=HT.out.lt
      clear hlt hi hm HM
      go_wp2_with fail
      clear q1 lq
      go_loopg [22] t.threads.length (fun gg v22 wx=>∃ i,i<=t.threads.length/\gg=t.threads.length - i/\v22 = .int .i64 (i:Nat)/\Hid (Sits wx (g+1) 167 (letC (thrL (t.threads.take i) (initL t.init noLet))))/\Hid (Sits wx g 27 #[.slice pi t.init.length ci,.slice pt t.threads.length ct,.bool t.all,.pointer pa])/\Hid (Below w.heap.size w wx))
      case atStart=>exact ⟨0,by omega,by omega,rfl,HMM,HT,HB⟩
      case round =>
        obtain ⟨i,hi,rfl,rfl,HM,HT,HB⟩:=hrel
        by_cases hlt:i<t.threads.length
        · have hc:t.threads[i]? = some t.threads[i]:=List.getElem?_eq_getElem hlt
          have HFC:=Lib.hid (HF.out t.threads[i] (List.getElem_mem hlt))
          generalize t.threads[i]=c at hc HFC
          obtain ⟨gt,ot,cp,u,ev,hcell,hst⟩:=HV.out.threads.at hc
          injection ev with ev1 _ ev2
          subst ev1 ev2
          have hcell2:wr.cell? ⟨gt,ot+i,none⟩=some u:=(HB.out.cell (p:=⟨gt,ot+i,none⟩) (World.block_lt_of_cell? w _ hcell)).trans hcell
          have lgt:=World.block_lt_of_cell? wr _ hcell2
          have HST:=Lib.hid (stand_off (g:=g+1) hst HB.out (by have:=HGB.out;omega))
          have HW:=Lib.hid (Walkg_any (loc1_tale (W0:=wr) (g:=g+1)) c u _ wr HFC.out HM.out (Keeps.refl _ _) HST.out)
          have HSN:=Lib.hid (show thrL (t.threads.take (i+1)) (initL t.init noLet)=c.fold locR 8 (thrL (t.threads.take i) (initL t.init noLet)) by rw [take_snoc hc,thrL_snoc])
          obtain ⟨pu,nu,cu,rfl⟩:∃ p n c,u = .slice p n c:=by obtain ⟨p,c,h,_⟩:=hst.len;exact ⟨_,_,_,h⟩
          have i1:(i:Int)<(t.threads.length:Int):=by omega
          have i2:(0:Int)<=(i:Int):=by omega
          have HI:=Lib.hid hlt
          clear hc hst hcell hlt hi
          go_wp2_with fail
          refine HW.out.mono ?_
          rintro e w2 ⟨rfl,hs,hk⟩
          have HM2:=Lib.hid hs
          have HT2:=Lib.hid (HT.out.keep hk (by omega))
          have HB2:=Lib.hid (behind HB.out hk HB.out.size (fun x e=>by have:=HGB.out;omega))
          clear hs hk hcell2 lgt
          go_wp2_with fail
          go_roundg (t.threads.length - (i+1))
          case measure=>have:=HI.out;omega
          case rel=>exact ⟨i+1,HI.out,rfl,by go_num,Lib.hid (by rw [HSN.out];exact HM2.out),HT2,HB2⟩
        · obtain rfl:i=t.threads.length:=by omega
          have hm:=HM.out
          rw [List.take_length] at hm
          have HW:=Lib.hid (WalkE_any (loc2_tale (W0:=wr) (g:=g+1)) t.ask HO.out (.pointer pa) _ (HV.out.ask.below HB.out) hm)
          have q3:wr.cell? ⟨g,3,none⟩=some (.pointer pa):=HT.out.cell 3
          have lq:=HT.out.lt
          clear hlt hi hm HM
          go_wp2_with fail
          refine HW.out.mono ?_
          rintro e w2 ⟨rfl,hs,hk⟩
          have HX:=Lib.hid (text_any (g+1) _ w2 hs)
          have HB2:=Lib.hid (behind HB.out hk HB.out.size (fun x e=>by have:=HGB.out;omega))
          rw [show lettersOf (exFoldO leafL t.ask (thrL t.threads (initL t.init noLet)))=locsF t from rfl] at HX
          obtain ⟨out,ho⟩:∃ out,out=locsF t:=⟨_,rfl⟩
          rw [<- ho] at HX
          have HOUT:=Lib.hid ho
          clear ho
          clear hs hk q3 lq
          go_wp2_with fail
          refine HX.out.mono ?_
          rintro e w3 ⟨rfl,hb⟩
          have HB3:=Lib.hid (HB2.out.trans (hb.mono HB2.out.size))
          clear hb
          go_wp2_with fail
          go_ret
          exact ⟨by rw [<- HOUT.out];rfl,HB3.out⟩
set_option maxRecDepth 100000 in
theorem nob1_any (n ct:Nat) (pt pa pi:Option Addr) (ni ci:Nat) (al:Bool) (e:Ex) (g gt:Nat) (s:Bool) (w:World) (hn:n<=1000) (het:(leafIt e).t<256) (hB:Sits w g 4 (boolC s)) (hT:Sits w gt 27 #[.slice pi ni ci,.slice pt n ct,.bool al,.pointer pa]) :
    Calls Tryz.prog 117 #[leafVal e,.pointer (some ⟨g,0,none⟩),.pointer (some ⟨gt,0,none⟩)] w (ToldS g 4 (boolC (nobodyL n e s)) w):=by
  have b0:w.cell? ⟨g,0,none⟩=some (.bool s):=hB.cell 0
  have f0:=hB.free 0
  have lm:=hB.lt
  have q1:w.cell? ⟨gt,1,none⟩=some (.slice pt n ct):=hT.cell 1
  have lq:=hT.lt
  have HT:=Lib.hid (fun b' o=>boxed_told (b':=b') hB o)
  unfold nobodyL leafVal
  generalize leafIt e=it at het ⊢
  obtain ⟨q,op,nn,t,i,x⟩:=it
  simp only [exprCells]
  have m1:(n:Int)<=1000:=by omega
  have m2:(t:Int)<256:=by have:t<256:=het;omega
  clear het
  cases s with
  | true =>
    rw [Bool.true_or]
    clear hT hB
    go_enter Tryz.func117,Tryz.ntmps117
    go_wp2_with fail
    go_end0
    exact HT.out _ _
  | false =>
    rw [Bool.false_or]
    clear hT hB
    by_cases h:q=2
    · subst h
      rw [decide_eq_true rfl,Bool.true_and]
      by_cases h:n<=t
      · rw [decide_eq_true h]
        have i1:(n:Int)<=(t:Int):=by omega
        clear h
        go_enter Tryz.func117,Tryz.ntmps117
        go_wp2_with fail
        go_end0
        exact HT.out _ _
      · rw [decide_eq_false h]
        have i1:¬ ((n:Int)<=(t:Int)):=by omega
        clear h
        go_enter Tryz.func117,Tryz.ntmps117
        go_wp2_with fail
        go_end0
        exact HT.out _ _
    · rw [decide_eq_false h,Bool.false_and]
      have i1:((q:Int) == 2)=false:=beq_eq_false_iff_ne.2 (by omega)
      clear h
      go_enter Tryz.func117,Tryz.ntmps117
      go_wp2_with fail
      go_end0
      exact HT.out _ _
theorem leaf_few {e:Ex} (ho:e.ok):(leafIt e).t<256:=by
  cases e with
  | of t i=>have:=ho.1;show t<256;omega
  | _=>simp [leafIt]
theorem nob1_enters:Expr.Enters 117:=enters_of Tryz.func117 (by kernel_rfl) rfl
theorem nob1_tale {n ct:Nat} {pt pa pi:Option Addr} {ni ci:Nat} {al:Bool} {W0:World} {g gt:Nat} {b:Bool} (hn:n<=1000) (hB:Sits W0 g 4 (boolC b)) (hT:Sits W0 gt 27 #[.slice pi ni ci,.slice pt n ct,.bool al,.pointer pa]) :
    TaleE 117 g 4 #[.pointer (some ⟨g,0,none⟩),.pointer (some ⟨gt,0,none⟩)] boolC (nobodyL n) W0 where
  enters:=nob1_enters
  neE:=by decide
  call:=fun e s w _ ho h1 h2=>nob1_any n ct pt pa pi ni ci al e g gt s w hn (leaf_few ho) h1 (hT.keep h2 (fun e=>hT.differ hB (by decide) e))
set_option maxRecDepth 100000 in
theorem nobody_any (t:Ts) (ht:t.small) (vi vt va:Value) (w:World) (hV:TestV w t vi vt va) :
    Calls Tryz.prog 56 #[testAgg vi vt t.all va] w fun e w'=>Made (.returned (.bool (nobodyF t))) w e w':=by
  obtain ⟨pi,ci,rfl⟩:=hV.init.len
  obtain ⟨pt,ct,rfl⟩:=hV.threads.len
  obtain ⟨pa,rfl,_⟩:=hV.ask.ptr
  have hb1:Below w.heap.size w ((w.alloc (.cells #[.slice pi t.init.length ci,.slice pt t.threads.length ct,.bool t.all,.pointer pa] 27)).alloc (.cells #[.bool false] 4)):=((Below.refl _ w).alloc (Nat.le_refl _) _).alloc (by simp) _
  have HB1:=Lib.hid hb1
  have hT1:Sits ((w.alloc (.cells #[.slice pi t.init.length ci,.slice pt t.threads.length ct,.bool t.all,.pointer pa] 27)).alloc (.cells #[.bool false] 4)) w.heap.size 27 #[.slice pi t.init.length ci,.slice pt t.threads.length ct,.bool t.all,.pointer pa]:=(Sits.new _ _ _).alloc _
  have hM1:Sits ((w.alloc (.cells #[.slice pi t.init.length ci,.slice pt t.threads.length ct,.bool t.all,.pointer pa] 27)).alloc (.cells #[.bool false] 4)) (w.heap.size+1) 4 (boolC false):=Sits.made (by simp) _ _
  have HW:=Lib.hid (WalkE_any (nob1_tale ht.threads hM1 hT1) t.ask ht.ask (.pointer pa) false (hV.ask.below hb1) hM1)
  have HT1:=Lib.hid hT1
  have q3:=hT1.cell 3
  have lq:=hT1.lt
  rw [show exFoldO (nobodyL t.threads.length) t.ask false=nobodyF t from rfl] at HW
  generalize nobodyF t=r at HW ⊢
  clear hV hb1 ht hT1 hM1
  simp only [testAgg]
  go_enter Tryz.func56,Tryz.ntmps56
  go_wp2_with fail
  refine HW.out.mono ?_
  rintro e w2 ⟨rfl,hs,hk⟩
  have HB2:=Lib.hid (behind HB1.out hk HB1.out.size (fun x e=>by omega))
  have c0:w2.cell? ⟨w.heap.size+1,0,none⟩=some (.bool r):=hs.cell 0
  have lm:=hs.lt
  clear hs hk q3 lq
  go_wp2_with fail
  go_ret
  exact ⟨rfl,HB2.out⟩
end Go.Proofs.YtbkdappgmcebaaaGreatDoor.Chk
end
section
namespace Go.Proofs.YtbkdappgmcebaaaGreatDoor.Chk
open Go.RowKit Go.Proofs.YtbkdappgmcebaaaGreatDoor.Mem Go.Proofs.YtbkdappgmcebaaaGreatDoor.Expr Go.Proofs.YtbkdappgmcebaaaGreatDoor.Prog Go.Lib
theorem tooDeep_enters:Expr.Enters 52:=enters_of Tryz.func52 (by kernel_rfl) rfl
set_option maxRecDepth 100000 in
theorem deepIdx_any (bs:List Blk) (v:Value) (w:World) (hl:bs.length<=1000) (hS:Threads w v bs) :
    Calls Tryz.prog 112 #[v,.func (.func 52) #[] #[]] w fun e w'=>(∃ k:Int,e = .returned (.int .i64 k)/\decide (0<=k)=bs.any (fun b=>decide (8<b.deep)))/\Below w.heap.size w w':=by
  obtain ⟨p,cap,rfl⟩:=hS.len
  have en:=tooDeep_enters
  unfold Expr.Enters at en
  have HS:=Lib.hid hS
  have HB1:=Lib.hid (Below.refl w.heap.size w)
  have m1:(bs.length:Int)<=1000:=by omega
  clear hS hl
  go_enter Tryz.func112,Tryz.ntmps112
  go_wp2_with fail
  go_loopg [8] bs.length (fun gg v8 wx=>∃ i,i<=bs.length/\gg=bs.length - i/\v8 = .int .i64 (i:Nat)/\Hid (Below w.heap.size w wx)/\Hid (bs.any (fun b=>decide (8<b.deep))=(bs.drop i).any (fun b=>decide (8<b.deep))))
  case atStart=>exact ⟨0,by omega,by omega,rfl,HB1,Lib.hid rfl⟩
  case round =>
    obtain ⟨i,hi,rfl,rfl,HB,HE⟩:=hrel
    by_cases hlt:i<bs.length
    · have hc:bs[i]? = some bs[i]:=List.getElem?_eq_getElem hlt
      generalize bs[i]=c at hc
      obtain ⟨gt,ot,cp,u,ev,hcell,hst⟩:=HS.out.at hc
      injection ev with ev1 _ ev2
      subst ev1 ev2
      have hcell2:wr.cell? ⟨gt,ot+i,none⟩=some u:=(HB.out.cell (p:=⟨gt,ot+i,none⟩) (World.block_lt_of_cell? w _ hcell)).trans hcell
      have lgt:=World.block_lt_of_cell? wr _ hcell2
      have HT:=Lib.hid (tooDeep_any c u wr (hst.below HB.out))
      have hd:=HE.out
      rw [drop_at hc,List.any_cons] at hd
      have HD:=Lib.hid hd
      obtain ⟨pu,nu,cu,rfl⟩:∃ p n c,u = .slice p n c:=by obtain ⟨p,c,h,_⟩:=hst.len;exact ⟨_,_,_,h⟩
      have i1:(i:Int)<(bs.length:Int):=by omega
      have i2:(0:Int)<=(i:Int):=by omega
      have HI:=Lib.hid hlt
      clear hc hst hcell hlt hi hd
      cases hq:decide (8<c.deep) with
      | true =>
        rw [hq] at HT HD
        clear hq
        go_wp2_with fail
        refine HT.out.mono ?_
        rintro e w2 ⟨rfl,hb⟩
        have HB2:=Lib.hid (HB.out.trans (hb.mono HB.out.size))
        clear hb hcell2 lgt
        go_wp2_with fail
        go_ret
        exact ⟨⟨_,rfl,by rw [HD.out];simp⟩,HB2.out⟩
      | false =>
        rw [hq] at HT HD
        clear hq
        go_wp2_with fail
        refine HT.out.mono ?_
        rintro e w2 ⟨rfl,hb⟩
        have HB2:=Lib.hid (HB.out.trans (hb.mono HB.out.size))
        clear hb hcell2 lgt
        go_wp2_with fail
        go_roundg (bs.length - (i+1))
        case measure=>have:=HI.out;omega
        case rel=>exact ⟨i+1,HI.out,rfl,by go_num,HB2,Lib.hid (by rw [HD.out,Bool.false_or])⟩
    · obtain rfl:i=bs.length:=by omega
      have hd:=HE.out
      rw [List.drop_length] at hd
      have HD:=Lib.hid hd
      clear hlt hi hd
      go_wp2_with fail
      go_ret
      exact ⟨⟨-1,rfl,by rw [HD.out];rfl⟩,HB.out⟩
set_option maxRecDepth 100000 in
theorem anyDeep_any (bs:List Blk) (v:Value) (w:World) (hl:bs.length<=1000) (hS:Threads w v bs) :
    Calls Tryz.prog 51 #[v,.func (.func 52) #[] #[]] w fun e w'=>Made (.returned (.bool (bs.any (fun b=>decide (8<b.deep))))) w e w':=by
  have H:=Lib.hid (deepIdx_any bs v w hl hS)
  obtain ⟨p,cap,rfl⟩:=hS.len
  clear hS hl
  generalize bs.any (fun b=>decide (8<b.deep))=r at H ⊢
  go_enter Tryz.func51,Tryz.ntmps51
  go_wp2_with fail
  refine H.out.mono ?_
  rintro e w' ⟨⟨k,rfl,hk⟩,hb⟩
  have HB:=Lib.hid hb
  clear hb
  go_wp2_with fail
  go_ret
  exact ⟨by rw [<- hk];rfl,HB.out⟩
def Asks (W:World) (u:Value) (r:Nat):Prop:=∃ p q:Value,u = .func (.func 101) #[] #[p,q]/\∀ W',Below W.heap.size W W' -> Calls Tryz.prog 101 #[p,q] W' (Made (.returned (.int .i64 (r:Nat))) W')
theorem Asks.below {W W':World} {u:Value} {r:Nat} (h:Asks W u r) (hb:Below W.heap.size W W'):Asks W' u r:=by
  obtain ⟨p,q,hu,h⟩:=h
  exact ⟨p,q,hu,fun W2 h2=>h W2 (hb.trans (h2.mono hb.size))⟩
def firstE:List Nat->Nat
  | []=>0
  | e :: l=>if e=0 then firstE l else e
theorem when1_enters:Expr.Enters 101:=enters_of Tryz.func101 (by kernel_rfl) rfl
set_option maxRecDepth 100000 in
theorem when1_any (F:FuncId) (c:Array Value) (en:Expr.Enters F) (gf ge e:Nat) (b:Bool) (w:World) (hf:Sits w gf 22 #[.func (.func F) #[] c]) (he:Sits w ge 30 #[.int .i64 (e:Nat)])
    (H:Calls Tryz.prog F c w (Made (.returned (.bool b)) w)):Calls Tryz.prog 101 #[.pointer (some ⟨gf,0,none⟩),.pointer (some ⟨ge,0,none⟩)] w (Made (.returned (.int .i64 ((if b then e else 0:Nat)))) w):=by
  have HH:=Lib.hid H
  have f0:=hf.cell 0
  have lf:=hf.lt
  have HEE:=Lib.hid he
  unfold Expr.Enters at en
  clear H hf he
  cases b with
  | true =>
    go_enter Tryz.func101,Tryz.ntmps101
    go_wp2_with fail
    refine HH.out.mono ?_
    rintro e' w' ⟨rfl,hb⟩
    have h1:=HEE.out.below hb HEE.out.lt
    have e0:=h1.cell 0
    have le:=h1.lt
    have HB:=Lib.hid hb
    clear hb h1 f0 lf
    go_wp2_with fail
    go_ret
    exact ⟨rfl,HB.out⟩
  | false =>
    go_enter Tryz.func101,Tryz.ntmps101
    go_wp2_with fail
    refine HH.out.mono ?_
    rintro e' w' ⟨rfl,hb⟩
    have HB:=Lib.hid hb
    clear hb f0 lf
    go_wp2_with fail
    go_ret
    exact ⟨rfl,HB.out⟩
def WhenMade (W:World) (r:Nat) (e:Ending) (W':World):Prop:=∃ p q:Value,e = .returned (.func (.func 101) #[] #[p,q])/\Asks W' (.func (.func 101) #[] #[p,q]) r/\Below W.heap.size W W'
set_option maxRecDepth 100000 in
theorem when_any (F:FuncId) (c:Array Value) (en:Expr.Enters F) (e:Nat) (b:Bool) (w:World) (H:∀ W,Below w.heap.size w W->Calls Tryz.prog F c W (Made (.returned (.bool b)) W)) :
    Calls Tryz.prog 41 #[.int .i64 (e:Nat),.func (.func F) #[] c] w (WhenMade w (if b then e else 0)):=by
  have hb1:Below w.heap.size w ((w.alloc (.cells #[.int .i64 (e:Nat)] 30)).alloc (.cells #[.func (.func F) #[] c] 22)):=((Below.refl _ w).alloc (Nat.le_refl _) _).alloc (by simp) _
  have hf:Sits ((w.alloc (.cells #[.int .i64 (e:Nat)] 30)).alloc (.cells #[.func (.func F) #[] c] 22)) (w.heap.size+1) 22 #[.func (.func F) #[] c]:=Sits.made (by simp) _ _
  have he:Sits ((w.alloc (.cells #[.int .i64 (e:Nat)] 30)).alloc (.cells #[.func (.func F) #[] c] 22)) w.heap.size 30 #[.int .i64 (e:Nat)]:=(Sits.new _ _ _).alloc _
  have HR:=Lib.hid (show WhenMade w (if b then e else 0) (.returned (.func (.func 101) #[] #[.pointer (some ⟨w.heap.size+1,0,none⟩),.pointer (some ⟨w.heap.size,0,none⟩)])) ((w.alloc (.cells #[.int .i64 (e:Nat)] 30)).alloc (.cells #[.func (.func F) #[] c] 22)) from
    ⟨_,_,rfl,⟨_,_,rfl,fun W' h=>when1_any F c en _ _ e b W' (hf.below h hf.lt) (he.below h he.lt) (H W' (hb1.trans (h.mono hb1.size)))⟩,hb1⟩)
  generalize (if b then e else 0)=r at HR ⊢
  clear H hb1 hf he
  go_enter Tryz.func41,Tryz.ntmps41
  go_wp2_with fail
  go_ret
  exact HR.out
set_option maxRecDepth 100000 in
theorem first_any (es:List Nat) (g:Nat) (us:List Value) (w:World) (hl:es.length<=1000) (hu:us.length=es.length) (hS:Sits w g 100 us.toArray) (hA:∀ (i:Nat) (u:Value) (r:Nat),us[i]? = some u->es[i]? = some r->Asks w u r) :
    Calls Tryz.prog 40 #[.slice (some ⟨g,0,none⟩) us.length us.length] w (Made (.returned (.int .i64 (firstE es:Nat))) w):=by
  have HS:=Lib.hid hS
  have HA:=Lib.hid hA
  have HB1:=Lib.hid (Below.refl w.heap.size w)
  have en:=when1_enters
  unfold Expr.Enters at en
  have HU:=Lib.hid hu
  have m1:(us.length:Int)<=1000:=by omega
  clear hS hA hl hu
  go_enter Tryz.func40,Tryz.ntmps40
  go_wp2_with fail
  go_loopg [8] us.length (fun gg v8 wx=>∃ i,i<=us.length/\gg=us.length - i/\v8 = .int .i64 (i:Nat)/\Hid (Below w.heap.size w wx)/\Hid (firstE es=firstE (es.drop i)))
  case atStart=>exact ⟨0,by omega,by omega,rfl,HB1,Lib.hid rfl⟩
  case round =>
    obtain ⟨i,hi,rfl,rfl,HB,HE⟩:=hrel
    by_cases hlt:i<us.length
    · have hc:us[i]? = some us[i]:=List.getElem?_eq_getElem hlt
      generalize us[i]=u at hc
      have hr:es[i]? = some es[i]:=List.getElem?_eq_getElem (by have:=HU.out;omega)
      generalize es[i]=r at hr
      obtain ⟨p,q,rfl,ha⟩:=HA.out i u r hc hr
      have HC:=Lib.hid (ha wr HB.out)
      have hs:=HS.out.below HB.out HS.out.lt
      have hcell:wr.cell? ⟨g,i,none⟩=some (.func (.func 101) #[] #[p,q]):=(hs.cell i).trans (by rw [List.getElem?_toArray];exact hc)
      have lg:=hs.lt
      have hd:=HE.out
      rw [drop_at hr,firstE] at hd
      have i1:(i:Int)<(us.length:Int):=by omega
      have i2:(0:Int)<=(i:Int):=by omega
      have HI:=Lib.hid hlt
      clear hc hr ha hs hlt hi
      by_cases h0:r=0
      · subst h0
        rw [if_pos rfl] at hd
        have HD:=Lib.hid hd
        clear hd
        go_wp2_with fail
        refine HC.out.mono ?_
        rintro e w2 ⟨rfl,hb⟩
        have HB2:=Lib.hid (HB.out.trans (hb.mono HB.out.size))
        clear hb hcell lg
        go_wp2_with fail
        go_roundg (us.length - (i+1))
        case measure=>have:=HI.out;omega
        case rel=>exact ⟨i+1,HI.out,rfl,by go_num,HB2,HD⟩
      · rw [if_neg h0] at hd
        have HD:=Lib.hid hd
        have n1:((r:Int) == 0)=false:=beq_eq_false_iff_ne.2 (by omega)
        have n2:((r:Int) != 0)=true:=bne_iff_ne.2 (by omega)
        clear hd h0
        go_wp2_with fail
        refine HC.out.mono ?_
        rintro e w2 ⟨rfl,hb⟩
        have HB2:=Lib.hid (HB.out.trans (hb.mono HB.out.size))
        clear hb hcell lg
        go_wp2_with fail
        go_ret
        exact ⟨by rw [HD.out];rfl,HB2.out⟩
    · obtain rfl:i=us.length:=by omega
      have hd:=HE.out
      rw [HU.out,List.drop_length] at hd
      have HD:=Lib.hid (show firstE es=0 from hd)
      clear hlt hi hd
      go_wp2_with fail
      go_ret
      exact ⟨by rw [HD.out];rfl,HB.out⟩
end Go.Proofs.YtbkdappgmcebaaaGreatDoor.Chk
end
section
namespace Go.Proofs.YtbkdappgmcebaaaGreatDoor.Chk
open Go.RowKit Go.Proofs.YtbkdappgmcebaaaGreatDoor.Mem Go.Proofs.YtbkdappgmcebaaaGreatDoor.Expr Go.Proofs.YtbkdappgmcebaaaGreatDoor.Prog Go.Lib
structure Boxed (w0:World) (t:Ts) (g:Nat) (pi:Option Addr) (ci:Nat) (pt:Option Addr) (ct:Nat) (pa:Option Addr) (W:World):Prop where
  small:t.small
  low:Below w0.heap.size w0 W
  kind:KindAt w0
  v:TestV w0 t (.slice pi t.init.length ci) (.slice pt t.threads.length ct) (.pointer pa)
  box:Sits W g 27 #[.slice pi t.init.length ci,.slice pt t.threads.length ct,.bool t.all,.pointer pa]
theorem Boxed.below {w0 W W':World} {t:Ts} {g ci ct:Nat} {pi pt pa:Option Addr} (h:Boxed w0 t g pi ci pt ct pa W) (hb:Below W.heap.size W W'):Boxed w0 t g pi ci pt ct pa W' :=
  ⟨h.small,h.low.trans (hb.mono h.low.size),h.kind,h.v,h.box.below hb h.box.lt⟩
section
variable {w0 W : World} {t : Ts} {g ci ct : Nat} {pi pt pa : Option Addr}
theorem dec_lt4 (n:Nat):decide ((4:Int)<(n:Int))=decide (4<n):=by
  by_cases h:4<n
  · rw [decide_eq_true h,decide_eq_true (show (4:Int)<(n:Int) by omega)]
  · rw [decide_eq_false h,decide_eq_false (show ¬ (4:Int)<(n:Int) by omega)]
set_option maxRecDepth 100000 in
theorem ck1 (h:Boxed w0 t g pi ci pt ct pa W):Calls Tryz.prog 42 #[.pointer (some ⟨g,0,none⟩)] W (Made (.returned (.bool (decide (t.threads.length=0)))) W):=by
  have q1:=h.box.cell 1
  have lg:=h.box.lt
  rw [<- int_dec0]
  have m1:(t.threads.length:Int)<=1000:=by have:=h.small.threads;omega
  generalize t.threads.length=n at *
  clear h
  go_enter Tryz.func42,Tryz.ntmps42
  go_wp2_with fail
  go_ret
  exact ⟨rfl,Below.refl _ _⟩
set_option maxRecDepth 100000 in
theorem ck2 (h:Boxed w0 t g pi ci pt ct pa W):Calls Tryz.prog 43 #[.pointer (some ⟨g,0,none⟩)] W (Made (.returned (.bool (!stsMay t.threads true))) W):=by
  have q1:=h.box.cell 1
  have lg:=h.box.lt
  have HS:=Lib.hid (stsMay_any t.threads _ W h.small.threads (fun b hb=>(h.small.fine b hb).1) (h.kind.below h.low) (h.v.threads.below h.low))
  generalize stsMay t.threads true=r at HS ⊢
  clear h
  go_enter Tryz.func43,Tryz.ntmps43
  go_wp2_with fail
  refine HS.out.mono ?_
  rintro e w1 ⟨rfl,hb⟩
  have HB:=Lib.hid hb
  clear hb
  go_wp2_with fail
  go_ret
  exact ⟨rfl,HB.out⟩
set_option maxRecDepth 100000 in
theorem ck3 (h:Boxed w0 t g pi ci pt ct pa W):Calls Tryz.prog 45 #[.pointer (some ⟨g,0,none⟩)] W (Made (.returned (.bool (!startsF t.init noLet))) W):=by
  have q1:=h.box.cell 0
  have lg:=h.box.lt
  have HS:=Lib.hid (starts_any t.init _ W h.small.init (h.v.init.below h.low))
  generalize startsF t.init noLet=r at HS ⊢
  clear h
  go_enter Tryz.func45,Tryz.ntmps45
  go_wp2_with fail
  refine HS.out.mono ?_
  rintro e w1 ⟨rfl,hb⟩
  have HB:=Lib.hid hb
  clear hb
  go_wp2_with fail
  go_ret
  exact ⟨rfl,HB.out⟩
set_option maxRecDepth 100000 in
theorem ck4 (h:Boxed w0 t g pi ci pt ct pa W):Calls Tryz.prog 47 #[.pointer (some ⟨g,0,none⟩)] W (Made (.returned (.bool (!exMay [0,2,3] t.ask))) W):=by
  have q1:=h.box.cell 3
  have lg:=h.box.lt
  have hb1:Below W.heap.size W (W.alloc (.cells #[.int .u8 0,.int .u8 2,.int .u8 3] 5)):=(Below.refl _ W).alloc (Nat.le_refl _) _
  have HS:=Lib.hid (exMay_any t.ask h.small.ask [0,2,3] (by decide) (.pointer pa) (.slice (some ⟨W.heap.size,0,none⟩) 3 3) (W.alloc (.cells #[.int .u8 0,.int .u8 2,.int .u8 3] 5)) ((h.v.ask.below h.low).below hb1) (.inr ⟨_,rfl,Sits.new _ _ _⟩))
  have HB1:=Lib.hid hb1
  generalize exMay [0,2,3] t.ask=r at HS ⊢
  clear h hb1
  go_enter Tryz.func47,Tryz.ntmps47
  go_wp2_with fail
  refine HS.out.mono ?_
  rintro e w1 ⟨rfl,hb⟩
  have HB:=Lib.hid (HB1.out.trans (hb.mono HB1.out.size))
  clear hb
  go_wp2_with fail
  go_ret
  exact ⟨rfl,HB.out⟩
set_option maxRecDepth 100000 in
theorem ck5 (h:Boxed w0 t g pi ci pt ct pa W):Calls Tryz.prog 49 #[.pointer (some ⟨g,0,none⟩)] W (Made (.returned (.bool (decide (4<t.threads.length)))) W):=by
  have q1:=h.box.cell 1
  have lg:=h.box.lt
  rw [<- dec_lt4]
  have m1:(t.threads.length:Int)<=1000:=by have:=h.small.threads;omega
  generalize t.threads.length=n at *
  clear h
  go_enter Tryz.func49,Tryz.ntmps49
  go_wp2_with fail
  go_ret
  exact ⟨rfl,Below.refl _ _⟩
set_option maxRecDepth 100000 in
theorem ck6 (h:Boxed w0 t g pi ci pt ct pa W):Calls Tryz.prog 50 #[.pointer (some ⟨g,0,none⟩)] W (Made (.returned (.bool (t.threads.any (fun b=>decide (8<b.deep))))) W):=by
  have q1:=h.box.cell 1
  have lg:=h.box.lt
  have HS:=Lib.hid (anyDeep_any t.threads _ W h.small.threads (h.v.threads.below h.low))
  generalize t.threads.any (fun b=>decide (8<b.deep))=r at HS ⊢
  clear h
  go_enter Tryz.func50,Tryz.ntmps50
  go_wp2_with fail
  refine HS.out.mono ?_
  rintro e w1 ⟨rfl,hb⟩
  have HB:=Lib.hid hb
  clear hb
  go_wp2_with fail
  go_ret
  exact ⟨rfl,HB.out⟩
set_option maxRecDepth 100000 in
theorem ck7 (h:Boxed w0 t g pi ci pt ct pa W):Calls Tryz.prog 53 #[.pointer (some ⟨g,0,none⟩)] W (Made (.returned (.bool (decide (4<(locsF t).length)))) W):=by
  have q0:=h.box.cell 0
  have q1:=h.box.cell 1
  have q2:=h.box.cell 2
  have q3:=h.box.cell 3
  have lg:=h.box.lt
  have HS:=Lib.hid (locations_any t h.small _ _ _ W (h.v.below h.low))
  rw [<- dec_lt4]
  have m1:((locsF t).length:Int)<=26:=by
    have:=preL_len (namedL t) 26
    have e:locsF t=preL (namedL t) 26:=rfl
    rw [e];omega
  have hz:(str (locsF t)).size=(locsF t).length:=by simp [str,ByteArray.size]
  generalize (locsF t).length=n at hz m1 ⊢
  generalize str (locsF t)=s at HS hz
  simp only [testAgg] at HS
  clear h
  go_enter Tryz.func53,Tryz.ntmps53
  go_wp2_with fail
  refine HS.out.mono ?_
  rintro e w1 ⟨rfl,hb⟩
  have HB:=Lib.hid hb
  clear hb
  go_wp2_with fail
  go_ret
  exact ⟨by rw [<- hz];rfl,HB.out⟩
set_option maxRecDepth 100000 in
theorem ck8 (h:Boxed w0 t g pi ci pt ct pa W):Calls Tryz.prog 55 #[.pointer (some ⟨g,0,none⟩)] W (Made (.returned (.bool (nobodyF t))) W):=by
  have q0:=h.box.cell 0
  have q1:=h.box.cell 1
  have q2:=h.box.cell 2
  have q3:=h.box.cell 3
  have lg:=h.box.lt
  have HS:=Lib.hid (nobody_any t h.small _ _ _ W (h.v.below h.low))
  generalize nobodyF t=r at HS ⊢
  simp only [testAgg] at HS
  clear h
  go_enter Tryz.func55,Tryz.ntmps55
  go_wp2_with fail
  refine HS.out.mono ?_
  rintro e w1 ⟨rfl,hb⟩
  have HB:=Lib.hid hb
  clear hb
  go_wp2_with fail
  go_ret
  exact ⟨rfl,HB.out⟩
end
end Go.Proofs.YtbkdappgmcebaaaGreatDoor.Chk
end
section
namespace Go.Proofs.YtbkdappgmcebaaaGreatDoor.Chk
open Go.RowKit Go.ChangeShapes Go.WideShapes Go.ChangeAt Go.Proofs.YtbkdappgmcebaaaGreatDoor.Card
section
variable {H : Type} {enc : TypeId × Value → H} {P : Program} {w : World} {base : Nat} {sp : Nat → Bool} {held : Bool}
theorem bools_of_struct {fuel:Nat} {t:TypeId} {fs:Array Field} {cs:List Value} {zs:List Bool} {p:List MemPlace} (ht:P.underlying t=some (.struct fs))
    (hf:∀ (i:Nat) (f:Field),fs[i]? = some f->P.underlying f.type=some .bool/\f.offset=i/\P.cellsOf f.type=1) (hct:P.cellsOf t=fs.size)
    (h:DataW.trod enc P w base sp held fuel t cs=some (.agg (zs.map fun z => .lit (.bool z)),p)):cs=zs.map fun z=>Value.bool z:=by
  obtain ⟨xs,n,rfl,hx,hl,hxl,hall⟩:=DataW.trod_struct ht h
  have hxs:xs.map (·.1)=zs.map fun z=>(DataW.lit (.bool z):DataW H):=by
    have:=congrArg Prod.fst hx
    simpa using this.symm
  have hzl:zs.length=fs.size:=by
    have:=congrArg List.length hxs
    simp at this
    omega
  apply List.ext_getElem?
  intro i
  by_cases hi:i<fs.size
  · obtain ⟨hu,ho,hc⟩:=hf i fs[i] (by simp [hi])
    have h1:=hall i fs[i] (by simp [hi])
    obtain ⟨b,hb⟩:∃ b,xs[i]? = some b:=⟨xs[i]'(by omega),List.getElem?_eq_getElem (by omega)⟩
    rw [hb,ho,hc] at h1
    obtain ⟨z,hcz,rfl⟩:=DataW.trod_bool hu h1
    have h2:cs[i]? = some (.bool z):=by
      have:=congrArg (·[0]?) hcz
      simpa [List.getElem?_take,List.getElem?_drop] using this
    have h3:(xs.map (·.1))[i]? = some (DataW.lit (.bool z):DataW H):=by simp [hb]
    rw [hxs] at h3
    simp only [List.getElem?_map,Option.map_eq_some_iff,DataW.lit.injEq,Lit.bool.injEq] at h3
    obtain ⟨z',hz',rfl⟩:=h3
    simp [h2,hz']
  · rw [List.getElem?_eq_none (by omega),List.getElem?_eq_none (by simp;omega)]
end
def kindData:DataW Unit:=.agg ((List.range 10).map fun k => .agg ((hasL k).map fun b => .lit (.bool b)))
theorem gKind : Tryz.prog.globalNamed "troth/check.kinds" = some 0 := by kernel_rfl
theorem gKindType:(Tryz.prog.globals[0]?).map (·.type)=some 213:=by kernel_rfl
theorem kindAt_of {W : World} (h : Lib.VarReads Tryz.prog W "troth/check.kinds" kindData) : KindAt W := by
  obtain ⟨g',t',cs,fuel,p,hg',ht',hvar,hd⟩:=h
  obtain rfl:=Option.some.inj (gKind.symm.trans hg')
  obtain rfl:=Option.some.inj (gKindType.symm.trans ht')
  have hc:∀ k i:Nat,k<10->i<7->W.cell? ⟨0,k * 7+i,none⟩=some (.bool (has k i)):=by
    intro k i hk hi
    obtain ⟨f2,d,q,hdk,hr⟩:=Lib.array_elem Tryz.underlying213 hd k hk
    have hdk':d = .agg ((hasL k).map fun b => .lit (.bool b)):=by
      simp only [List.getElem?_map,List.getElem?_range hk,Option.map_some,Option.some.injEq] at hdk
      exact hdk.symm
    subst hdk'
    rw [show Tryz.prog.cellsOf 212=7 by kernel_rfl] at hr
    have hz:=bools_of_struct Tryz.underlying212 (by
      intro j f hj
      rcases j with _ | _ | _ | _ | _ | _ | _ | j
      all_goals first
        | (cases hj;exact ⟨by kernel_rfl,rfl,by kernel_rfl⟩)
        | (simp at hj)) (by kernel_rfl) hr
    have h2:=World.var?_cell hg' hvar (k * 7+i)
    rw [h2]
    have h3:=congrArg (·[i]?) hz
    have hl:(hasL k).length=7:=by
      rcases k with _ | _ | _ | _ | _ | _ | _ | _ | _ | _ | k
      all_goals rfl
    have h4:(hasL k)[i]? = some (has k i):=by
      unfold has
      rw [List.getD_eq_getElem?_getD,List.getElem?_eq_getElem (by omega)];rfl
    simp only [List.getElem?_take,List.getElem?_drop,List.getElem?_map,h4,if_pos hi,Option.map_some] at h3
    rw [<- Array.getElem?_toList]
    exact h3
  refine ⟨?_,hc⟩
  have h0:=hc 0 0 (by omega) (by omega)
  apply Nat.lt_of_not_le
  intro hle
  have hn:W.heap[0]? = none:=Array.getElem?_eq_none hle
  simp [World.cell?,hn] at h0
def kindCells:Array Value:=((List.range 70).map fun j=>Value.bool (has (j / 7) (j % 7))).toArray
def layKinds:Obj->Obj
  | .cells _ t frozen => .cells kindCells t frozen
  | o=>o
end Go.Proofs.YtbkdappgmcebaaaGreatDoor.Chk
end
