/- Part 19 of the proof: what is used of the texts ChkG, ChkH, ChkI. -/
import Derived.Test.YtagebkachdmnbaaGreatDoorEB7
import Derived.Test.YtagebkachdmnbaaGreatDoorEB6
import Derived.Test.YtagebkachdmnbaaGreatDoorEA9
section
namespace Go.Proofs.YtagebkachdmnbaaGreatDoor.Chk
open Go.RowKit Go.Proofs.YtagebkachdmnbaaGreatDoor.Mem Go.Proofs.YtagebkachdmnbaaGreatDoor.Expr Go.Proofs.YtagebkachdmnbaaGreatDoor.Prog Go.Lib
theorem row_lt {w:World} {v:Value} {b:Blk} {cs:List Value} (h:RowAt any_ w v b.len cs) (hh:Holds any_ w b cs):RowAt (fun g=>g<w.heap.size) w v b.len cs:=by
  rcases h with h | ⟨g,o,cap,hv,_,hn,hc⟩
  · exact .inl h
  · cases b with
    | nil=>exact .inl ⟨rfl,_,cap,hv⟩
    | cons m t e r =>
      obtain ⟨av,bv,tv,ev,ct,ce,cr,rfl,_⟩:=hh
      exact .inr ⟨g,o,cap,hv,World.block_lt_of_cell? w _ (hc 0 _ rfl),hn,hc⟩
theorem holds_lt {w:World}:∀ {b:Blk} {cs:List Value},Holds any_ w b cs->Holds (fun g=>g<w.heap.size) w b cs:=by
  intro b
  induction b with
  | nil=>intro cs h;exact h
  | cons m t e r iht ihe ihr =>
    intro cs h
    obtain ⟨av,bv,tv,ev,ct,ce,cr,rfl,ha,hb,hct,ht,hce,he,hr⟩:=h
    exact ⟨av,bv,tv,ev,ct,ce,cr,rfl,ha,hb,row_lt hct ht,iht ht,row_lt hce he,ihe he,ihr hr⟩
theorem stand_off {w w':World} {b:Blk} {v:Value} {g:Nat} (h:Stand any_ w b v) (hb:Below w.heap.size w w') (hg:w.heap.size<=g):Stand (off g) w' b v:=by
  obtain ⟨cs,h1,h2⟩:=h
  have hs:Stand (fun g=>g<w.heap.size) w b v:=⟨cs,row_lt h1 h2,holds_lt h2⟩
  refine (hs.keep (Stable.below hb) (fun x hx j u hu=>?_)).wider (fun x hx e=>by have:x=g:=e;omega)
  exact cell_below (U:=any_) hb x trivial j u hu
theorem KindAt.keep {w w':World} {g:Nat} (h:KindAt w) (k:Keeps (fun x=>x=g) w w') (hg:g≠0):KindAt w' :=
  ⟨Nat.lt_of_lt_of_le h.1 k.size,fun i j hi hj=>by rw [World.cell?_of_block (k.block _ h.1 (fun e=>hg e.symm))];exact h.2 i j hi hj⟩
theorem told_boxed {w w':World} {g:Nat} {b b':Bool} {o:Obj} (h:Sits w g 4 (boolC b)) (hb:Below (w.alloc o).heap.size (w.alloc o) w'):ToldS g 4 (boolC b') w (.returned (.tuple #[])) (w'.setCell ⟨g,0,none⟩ (.bool b')) :=
  ⟨rfl,((h.alloc o).below hb (h.alloc o).lt).put 0 (.bool b'),(((Keeps.refl (fun x=>x=g) w).alloc o).trans (Keeps.of_below hb)).put (p:=⟨g,0,none⟩) (.inl rfl) _⟩
set_option maxRecDepth 100000 in
theorem sts1_any (m:Mk) (pa pb pt pe:Option Addr) (nt ct ne ce g:Nat) (s:Bool) (w:World) (hf:FineM m) (hT:KindAt w) (hB:Sits w g 4 (boolC s)) (ha:Tree w (trO m.a) (.pointer pa)) (hb:Tree w (trO m.b) (.pointer pb)) :
    Calls Tryz.prog 140 #[stAgg m (.pointer pa) (.pointer pb) (.slice pt nt ct) (.slice pe ne ce),.pointer (some ⟨g,0,none⟩)] w (ToldS g 4 (boolC (mayR m nt ne s)) w):=by
  have b0:w.cell? ⟨g,0,none⟩=some (.bool s):=hB.cell 0
  have f0:=hB.free 0
  have lm:=hB.lt
  have hlow:Below w.heap.size w (w.alloc (.cells #[.int .u8 m.kind,.int .u8 m.reg,.int .u8 m.mode,.int .u8 m.loc,.pointer pa,.pointer pb,.slice pt nt ct,.slice pe ne ce] 169)):=(Below.refl _ w).alloc (Nat.le_refl _) _
  have HX:=Lib.hid (stMay_any m pa pb pt pe nt ct ne ce _ hf (hT.below hlow) (ha.below hlow) (hb.below hlow))
  have HT:=Lib.hid (fun b' o=>boxed_told (b':=b') hB o)
  have HT2:=Lib.hid (fun b' w' h=>told_boxed (b':=b') (w':=w') (o:=.cells #[.int .u8 m.kind,.int .u8 m.reg,.int .u8 m.mode,.int .u8 m.loc,.pointer pa,.pointer pb,.slice pt nt ct,.slice pe ne ce] 169) hB h)
  have HB:=Lib.hid hB
  unfold mayR
  cases s with
  | false =>
    rw [Bool.false_and]
    clear hT hB ha hb hf hlow HX HT2
    simp only [stAgg]
    go_enter Tryz.func140,Tryz.ntmps140
    go_wp2_with fail
    go_end0
    exact HT.out _ _
  | true =>
    rw [Bool.true_and]
    generalize stMay m nt ne=r at HX ⊢
    clear hT hB ha hb hf hlow
    simp only [stAgg]
    go_enter Tryz.func140,Tryz.ntmps140
    go_wp2_with fail
    refine HX.out.mono ?_
    rintro e w' ⟨rfl,hb⟩
    have hq:=(HB.out.alloc _).below hb (HB.out.alloc _).lt
    have b1:w'.cell? ⟨g,0,none⟩=some (.bool true):=hq.cell 0
    have f1:=hq.free 0
    have l1:=hq.lt
    have HR:=Lib.hid (HT2.out r _ hb)
    clear hq hb b0 f0 lm
    go_wp2_with fail
    go_end0
    exact HR.out
theorem sts1_enters:Expr.Enters 140:=enters_of Tryz.func140 (by kernel_rfl) rfl
theorem sts1_tale {W0:World} {g:Nat} (hT:KindAt W0) (hg:g≠0):Tale 140 g 4 boolC mayR W0 where
  enters:=sts1_enters
  neE:=by decide
  neS:=by decide
  neK:=by decide
  call:=fun m pa pb pt pe nt ct ne ce s w hf _ _ h1 h2 ha hb=>sts1_any m pa pb pt pe nt ct ne ce g s w hf (hT.keep h2 hg) h1 ha hb
theorem stsMay_snoc (l:List Blk) (c:Blk) (b:Bool):stsMay (l ++ [c]) b=c.fold mayR 8 (stsMay l b):=by simp [stsMay]
theorem take_snoc {α:Type} {l:List α} {i:Nat} {x:α} (h:l[i]? = some x):l.take (i+1)=l.take i ++ [x]:=by rw [List.take_add_one,h];rfl
set_option maxRecDepth 100000 in
theorem stsMay_any (bs:List Blk) (v:Value) (w:World) (hl:bs.length<=1000) (hf:∀ b ∈ bs,b.fine) (hT:KindAt w) (hS:Threads w v bs) :
    Calls Tryz.prog 80 #[v] w fun e w'=>Made (.returned (.bool (stsMay bs true))) w e w':=by
  obtain ⟨p,cap,rfl⟩:=hS.len
  have hb1:Below w.heap.size w (w.alloc (.cells #[.bool true] 4)):=(Below.refl _ w).alloc (Nat.le_refl _) _
  have HB1:=Lib.hid hb1
  have HM1:=Lib.hid (show Sits (w.alloc (.cells #[.bool true] 4)) w.heap.size 4 (boolC true) from Sits.new w _ _)
  have HS:=Lib.hid hS
  have HF:=Lib.hid hf
  have HK:=Lib.hid (fun W (h:Below w.heap.size w W)=>hT.below h)
  have HG:=Lib.hid hT.1
  have m1:(bs.length:Int)<=1000:=by omega
  clear hS hf hT hb1 hl
  go_enter Tryz.func80,Tryz.ntmps80
  go_wp2_with fail
  generalize w.alloc (.cells #[.bool true] 4)=w1 at HB1 HM1 ⊢
  generalize hgb:w.heap.size=g at HM1 ⊢
  have HGB:=Lib.hid hgb
  clear hgb
  go_loopg [8] bs.length (fun gg v8 wx=>∃ i,i<=bs.length/\gg=bs.length - i/\v8 = .int .i64 (i:Nat)/\Hid (Sits wx g 4 (boolC (stsMay (bs.take i) true)))/\Hid (Below w.heap.size w wx))
  case atStart=>exact ⟨0,by omega,by omega,rfl,HM1,HB1⟩
  case round =>
    obtain ⟨i,hi,rfl,rfl,HM,HB⟩:=hrel
    by_cases hlt:i<bs.length
    · have hc:bs[i]? = some bs[i]:=List.getElem?_eq_getElem hlt
      have HFC:=Lib.hid (HF.out bs[i] (List.getElem_mem hlt))
      generalize bs[i]=c at hc HFC
      obtain ⟨gt,ot,cp,u,ev,hcell,hst⟩:=HS.out.at hc
      injection ev with ev1 _ ev2
      subst ev1 ev2
      have hcell2:wr.cell? ⟨gt,ot+i,none⟩=some u:=(HB.out.cell (p:=⟨gt,ot+i,none⟩) (World.block_lt_of_cell? w _ hcell)).trans hcell
      have lgt:=World.block_lt_of_cell? wr _ hcell2
      have HST:=Lib.hid (stand_off (g:=g) hst HB.out (by have:=HGB.out;omega))
      have HW:=Lib.hid (Walkg_any (sts1_tale (HK.out wr HB.out) (by have:=HGB.out;have:=HG.out;omega)) c u _ wr HFC.out HM.out (Keeps.refl _ _) HST.out)
      have HSN:=Lib.hid (show stsMay (bs.take (i+1)) true=c.fold mayR 8 (stsMay (bs.take i) true) by rw [take_snoc hc,stsMay_snoc])
      obtain ⟨pu,nu,cu,rfl⟩:∃ p n c,u = .slice p n c:=by obtain ⟨p,c,h,_⟩:=hst.len;exact ⟨_,_,_,h⟩
      have i1:(i:Int)<(bs.length:Int):=by omega
      have i2:(0:Int)<=(i:Int):=by omega
      have HI:=Lib.hid hlt
      clear hc hst hcell hlt hi
      go_wp2_with fail
      refine HW.out.mono ?_
      rintro e w2 ⟨rfl,hs,hk⟩
      have HM2:=Lib.hid hs
      have HB2:=Lib.hid (behind HB.out hk HB.out.size (fun x e=>by have:=HGB.out;omega))
      clear hs hk hcell2 lgt
      go_wp2_with fail
      go_roundg (bs.length - (i+1))
      case measure=>have:=HI.out;omega
      case rel=>exact ⟨i+1,HI.out,rfl,by go_num,Lib.hid (by rw [HSN.out];exact HM2.out),HB2⟩
    · obtain rfl:i=bs.length:=by omega
      have hm:=HM.out
      rw [List.take_length] at hm
      have b0:wr.cell? ⟨g,0,none⟩=some (.bool (stsMay bs true)):=hm.cell 0
      have lm:=hm.lt
      clear hlt hi hm
      obtain ⟨r,hr⟩:∃ r,r=stsMay bs true:=⟨_,rfl⟩
      rw [<- hr] at b0
      have HR:=Lib.hid hr
      clear hr
      go_wp2_with fail
      go_ret
      exact ⟨by rw [<- HR.out];rfl,HB.out⟩
theorem initL_snoc (l:List (Nat × Nat)) (x:Nat × Nat) (m:Let):initL (l ++ [x]) m=putL x.1 (initL l m):=by simp [initL]
theorem drop_at {α:Type} {l:List α} {i:Nat} {x:α} (h:l[i]? = some x):l.drop i=x :: l.drop (i+1):=by
  obtain ⟨hl,he⟩:=List.getElem?_eq_some_iff.1 h
  rw [List.drop_eq_getElem_cons hl,he]
def initBox (w:World) (a n:Nat):World:=w.alloc (.cells #[.int .u8 a,.int .u64 n] 126)
theorem initBox_low (w:World) (a n:Nat):Below w.heap.size w (initBox w a n):=(Below.refl _ w).alloc (Nat.le_refl _) _
theorem initBox_sits (w:World) (a n:Nat):Sits (initBox w a n) w.heap.size 126 #[.int .u8 a,.int .u64 n]:=Sits.new w _ _
set_option maxRecDepth 100000 in
set_option maxHeartbeats 1000000 in
theorem starts_any (l:List (Nat × Nat)) (v:Value) (w:World) (hl:l.length<=1000) (hS:Inits w v l) :
    Calls Tryz.prog 82 #[v] w fun e w'=>Made (.returned (.bool (startsF l noLet))) w e w':=by
  obtain ⟨p,cap,rfl⟩:=hS.len
  have HB1:=Lib.hid (show Below w.heap.size w (w.alloc (.cells (letC noLet) 252)) from (Below.refl _ w).alloc (Nat.le_refl _) _)
  have HM1:=Lib.hid (Sits.new w 252 (letC noLet))
  have HS:=Lib.hid hS
  have m1:(l.length:Int)<=1000:=by omega
  clear hS hl
  go_enter Tryz.func82,Tryz.ntmps82
  go_wp2_with fail
  change Code.wp _ _ _ _ (w.alloc (.cells (letC noLet) 252))
  generalize w.alloc (.cells (letC noLet) 252)=w1 at HB1 HM1 ⊢
  generalize hgb:w.heap.size=g at HM1 ⊢
  have HGB:=Lib.hid hgb
  clear hgb
  go_loopg [8] l.length (fun gg v8 wx=>∃ i,i<=l.length/\gg=l.length - i/\v8 = .int .i64 (i:Nat)/\Hid (Sits wx g 252 (letC (initL (l.take i) noLet)))/\Hid (Below w.heap.size w wx)/\Hid (startsF l noLet=startsF (l.drop i) (initL (l.take i) noLet)))
  case atStart=>exact ⟨0,by omega,by omega,rfl,HM1,HB1,Lib.hid rfl⟩
  case round =>
    obtain ⟨i,hi,rfl,rfl,HM,HB,HE⟩:=hrel
    by_cases hlt:i<l.length
    · have hc:l[i]? = some l[i]:=List.getElem?_eq_getElem hlt
      generalize l[i]=c at hc
      obtain ⟨a,n⟩:=c
      obtain ⟨gt,ot,cp,ev,h0,h1⟩:=HS.out.at hc
      injection ev with ev1 _ ev2
      subst ev1 ev2
      have h0':wr.cell? ⟨gt,ot+i * 2,none⟩=some (.int .u8 (a:Nat)):=(HB.out.cell (p:=⟨gt,ot+i * 2,none⟩) (World.block_lt_of_cell? w _ h0)).trans h0
      have h1':wr.cell? ⟨gt,ot+i * 2+1,none⟩=some (.int .u64 (n:Nat)):=(HB.out.cell (p:=⟨gt,ot+i * 2+1,none⟩) (World.block_lt_of_cell? w _ h1)).trans h1
      have lgt:=World.block_lt_of_cell? wr _ h0'
      have hd:=HE.out
      rw [drop_at hc] at hd
      have HSN:=Lib.hid (show initL (l.take (i+1)) noLet=putL a (initL (l.take i) noLet) by rw [take_snoc hc,initL_snoc])
      generalize hml:initL (l.take i) noLet=m at HM hd HSN
      have HD:=Lib.hid (show startsF l noLet=(isLoc a && !m (a - 97) && startsF (l.drop (i+1)) (putL a m)) from hd)
      have hlow:=HB.out.trans ((initBox_low wr a n).mono HB.out.size)
      have HB2:=Lib.hid hlow
      have hms:=HM.out.below (initBox_low wr a n) HM.out.lt
      have HM2:=Lib.hid hms
      have HIL:=Lib.hid (fun W=>isLoc_any a W)
      have HPU:=Lib.hid (put_any g a m _ hms)
      have HHA:=Lib.hid (has_any g a m _ hms)
      have ib:=initBox_sits wr a n
      have x0:(initBox wr a n).cell? ⟨wr.heap.size,0,none⟩=some (.int .u8 (a:Nat)):=ib.cell 0
      have lx:=ib.lt
      have i1:(i:Int)<(l.length:Int):=by omega
      have i2:(0:Int)<=(i:Int):=by omega
      have HI:=Lib.hid hlt
      clear hc h0 h1 hlt hi hd hml hms hlow ib
      go_wp2_with fail
      change Calls _ _ _ (initBox wr a n) _
      generalize initBox wr a n=w2 at HB2 HM2 HPU HHA x0 lx ⊢
      refine (HIL.out _).mono ?_
      rintro e w' ⟨rfl,rfl⟩
      cases hla:isLoc a with
      | false =>
        rw [hla,Bool.false_and,Bool.false_and] at HD
        clear hla
        go_wp2_with fail
        go_ret
        exact ⟨by rw [HD.out];rfl,HB2.out⟩
      | true =>
        rw [hla,Bool.true_and] at HD
        have HHB:=Lib.hid (HHA.out hla)
        clear HHA hla
        go_wp2_with fail
        refine HHB.out.mono ?_
        rintro e w' ⟨rfl,rfl⟩
        cases hm:m (a - 97) with
        | true =>
          rw [hm,Bool.not_true,Bool.false_and] at HD
          clear hm
          go_wp2_with fail
          go_ret
          exact ⟨by rw [HD.out];rfl,HB2.out⟩
        | false =>
          rw [hm,Bool.not_false,Bool.true_and] at HD
          clear hm
          go_wp2_with fail
          refine HPU.out.mono ?_
          rintro e w3 ⟨rfl,hs,hk⟩
          have HM3:=Lib.hid hs
          have HB3:=Lib.hid (behind HB2.out hk HB2.out.size (fun x e=>by have:=HGB.out;omega))
          clear hs hk h0' h1' lgt x0 lx
          go_wp2_with fail
          go_roundg (l.length - (i+1))
          case measure=>have:=HI.out;omega
          case rel=>exact ⟨i+1,HI.out,rfl,by go_num,Lib.hid (by rw [HSN.out];exact HM3.out),HB3,Lib.hid (by rw [HSN.out];exact HD.out)⟩
    · obtain rfl:i=l.length:=by omega
      have hd:=HE.out
      rw [List.drop_length] at hd
      have HD:=Lib.hid (show startsF l noLet=true from hd)
      clear hlt hi hd
      go_wp2_with fail
      go_ret
      exact ⟨by rw [HD.out];rfl,HB.out⟩
set_option maxRecDepth 100000 in
theorem tooDeep_any (b:Blk) (v:Value) (w:World) (hS:Stand any_ w b v):Calls Tryz.prog 88 #[v] w fun e w'=>Made (.returned (.bool (decide (8<b.deep)))) w e w':=by
  have HN:=Lib.hid (Nest_any b v w hS)
  obtain ⟨p,c,rfl,_⟩:=hS.len
  clear hS
  by_cases h:8<b.deep
  · rw [show min 9 b.deep=9 by omega] at HN
    rw [decide_eq_true h]
    clear h
    go_enter Tryz.func88,Tryz.ntmps88
    go_wp2_with fail
    refine HN.out.mono ?_
    rintro e w1 ⟨rfl,hb⟩
    have HB:=Lib.hid hb
    clear hb
    go_wp2_with fail
    go_ret
    exact ⟨rfl,HB.out⟩
  · rw [show min 9 b.deep=b.deep by omega] at HN
    rw [decide_eq_false h]
    have i1:decide ((8:Int)<(b.deep:Int))=false:=decide_eq_false (by omega)
    clear h
    generalize b.deep=d at HN i1
    go_enter Tryz.func88,Tryz.ntmps88
    go_wp2_with fail
    refine HN.out.mono ?_
    rintro e w1 ⟨rfl,hb⟩
    have HB:=Lib.hid hb
    clear hb
    go_wp2_with fail
    go_ret
    exact ⟨by rw [<- i1];rfl,HB.out⟩
end Go.Proofs.YtagebkachdmnbaaGreatDoor.Chk
end
section
namespace Go.Proofs.YtagebkachdmnbaaGreatDoor.Chk
open Go.RowKit Go.Proofs.YtagebkachdmnbaaGreatDoor.Mem Go.Proofs.YtagebkachdmnbaaGreatDoor.Expr Go.Proofs.YtagebkachdmnbaaGreatDoor.Prog Go.Lib
set_option maxRecDepth 100000 in
theorem loc1_any (m:Mk) (pa pb pt pe:Option Addr) (nt ct ne ce g:Nat) (s:Let) (w:World) (hB:Sits w g 252 (letC s)) :
    Calls Tryz.prog 151 #[stAgg m (.pointer pa) (.pointer pb) (.slice pt nt ct) (.slice pe ne ce),.pointer (some ⟨g,0,none⟩)] w (ToldS g 252 (letC (locR m nt ne s)) w):=by
  have HP:=Lib.hid (fun o=>put_any g m.loc s (w.alloc o) (hB.alloc o))
  have HK:=Lib.hid (fun o=>(Keeps.refl (fun x=>x=g) w).alloc o)
  unfold locR
  generalize putL m.loc s=s2 at HP ⊢
  clear hB
  simp only [stAgg]
  go_enter Tryz.func151,Tryz.ntmps151
  go_wp2_with fail
  refine (HP.out _).mono ?_
  rintro e w' ⟨rfl,hs,hk⟩
  have HR:=Lib.hid (show ToldS g 252 (letC s2) w (.returned (.tuple #[])) w' from ⟨rfl,hs,(HK.out _).trans hk⟩)
  clear hs hk
  go_wp2_with fail
  go_end0
  exact HR.out
theorem loc1_enters:Expr.Enters 151:=enters_of Tryz.func151 (by kernel_rfl) rfl
theorem loc1_tale {W0:World} {g:Nat}:Tale 151 g 252 letC locR W0 where
  enters:=loc1_enters
  neE:=by decide
  neS:=by decide
  neK:=by decide
  call:=fun m pa pb pt pe nt ct ne ce s w _ _ _ h1 _ _ _=>loc1_any m pa pb pt pe nt ct ne ce g s w h1
set_option maxRecDepth 100000 in
theorem loc2_any (e:Ex) (g:Nat) (s:Let) (w:World) (hB:Sits w g 252 (letC s)) :
    Calls Tryz.prog 152 #[leafVal e,.pointer (some ⟨g,0,none⟩)] w (ToldS g 252 (letC (leafL e s)) w):=by
  have HP:=Lib.hid (fun o=>put_any g (leafIt e).x s (w.alloc o) (hB.alloc o))
  have HK:=Lib.hid (fun o=>(Keeps.refl (fun x=>x=g) w).alloc o)
  unfold leafL leafVal
  generalize putL (leafIt e).x s=s2 at HP ⊢
  generalize leafIt e=it at HP ⊢
  obtain ⟨q,op,nn,t,i,x⟩:=it
  simp only [exprCells] at HP ⊢
  clear hB
  go_enter Tryz.func152,Tryz.ntmps152
  go_wp2_with fail
  refine (HP.out _).mono ?_
  rintro e w' ⟨rfl,hs,hk⟩
  have HR:=Lib.hid (show ToldS g 252 (letC s2) w (.returned (.tuple #[])) w' from ⟨rfl,hs,(HK.out _).trans hk⟩)
  clear hs hk
  go_wp2_with fail
  go_end0
  exact HR.out
theorem loc2_enters:Expr.Enters 152:=enters_of Tryz.func152 (by kernel_rfl) rfl
theorem loc2_tale {W0:World} {g:Nat}:TaleE 152 g 252 #[.pointer (some ⟨g,0,none⟩)] letC leafL W0 where
  enters:=loc2_enters
  neE:=by decide
  call:=fun e s w _ _ h1 _=>loc2_any e g s w h1
theorem thrL_snoc (l:List Blk) (c:Blk) (m:Let):thrL (l ++ [c]) m=c.fold locR 8 (thrL l m):=by simp [thrL]
set_option maxRecDepth 100000 in
set_option maxHeartbeats 2000000 in
theorem locations_any (t:Ts) (ht:t.small) (vi vt va:Value) (w:World) (hV:TestV w t vi vt va) :
    Calls Tryz.prog 90 #[testAgg vi vt t.all va] w fun e w'=>Made (.returned (.string (str (locsF t)))) w e w':=by
  obtain ⟨pi,ci,rfl⟩:=hV.init.len
  obtain ⟨pt,ct,rfl⟩:=hV.threads.len
  obtain ⟨pa,rfl,_⟩:=hV.ask.ptr
  have hb1:Below w.heap.size w ((w.alloc (.cells #[.slice pi t.init.length ci,.slice pt t.threads.length ct,.bool t.all,.pointer pa] 40)).alloc (.cells (letC noLet) 252)):=((Below.refl _ w).alloc (Nat.le_refl _) _).alloc (by simp) _
  have HB1:=Lib.hid hb1
  have HT1:=Lib.hid (show Sits ((w.alloc (.cells #[.slice pi t.init.length ci,.slice pt t.threads.length ct,.bool t.all,.pointer pa] 40)).alloc (.cells (letC noLet) 252)) w.heap.size 40 #[.slice pi t.init.length ci,.slice pt t.threads.length ct,.bool t.all,.pointer pa] from (Sits.new _ _ _).alloc _)
  have HM1:=Lib.hid (show Sits ((w.alloc (.cells #[.slice pi t.init.length ci,.slice pt t.threads.length ct,.bool t.all,.pointer pa] 40)).alloc (.cells (letC noLet) 252)) (w.heap.size+1) 252 (letC noLet) from Sits.made (by simp) _ _)
  have HV:=Lib.hid hV
  have HF:=Lib.hid (fun c hc=>(ht.fine c hc).1)
  have HO:=Lib.hid ht.ask
  have m1:(t.init.length:Int)<=1000:=by have:=ht.init;omega
  have m2:(t.threads.length:Int)<=1000:=by have:=ht.threads;omega
  clear hV hb1 ht
  simp only [testAgg]
  go_enter Tryz.func90,Tryz.ntmps90
  go_wp2_with fail
  change Code.wp _ _ _ _ ((w.alloc (.cells #[.slice pi t.init.length ci,.slice pt t.threads.length ct,.bool t.all,.pointer pa] 40)).alloc (.cells (letC noLet) 252))
  generalize (w.alloc (.cells #[.slice pi t.init.length ci,.slice pt t.threads.length ct,.bool t.all,.pointer pa] 40)).alloc (.cells (letC noLet) 252)=w1 at HB1 HT1 HM1 ⊢
  generalize hgb:w.heap.size=g at HT1 HM1 ⊢
  have HGB:=Lib.hid hgb
  clear hgb
  go_loopg [11] t.init.length (fun gg v11 wx=>∃ i,i<=t.init.length/\gg=t.init.length - i/\v11 = .int .i64 (i:Nat)/\Hid (Sits wx (g+1) 252 (letC (initL (t.init.take i) noLet)))/\Hid (Sits wx g 40 #[.slice pi t.init.length ci,.slice pt t.threads.length ct,.bool t.all,.pointer pa])/\Hid (Below w.heap.size w wx))
  case atStart=>exact ⟨0,by omega,by omega,rfl,HM1,HT1,HB1⟩
  case round =>
    obtain ⟨i,hi,rfl,rfl,HM,HT,HB⟩:=hrel
    by_cases hlt:i<t.init.length
    · have hc:t.init[i]? = some t.init[i]:=List.getElem?_eq_getElem hlt
      generalize t.init[i]=c at hc
      obtain ⟨a,n⟩:=c
      obtain ⟨gt,ot,cp,ev,h0,h1⟩:=HV.out.init.at hc
      injection ev with ev1 _ ev2
      subst ev1 ev2
      have h0':wr.cell? ⟨gt,ot+i * 2,none⟩=some (.int .u8 (a:Nat)):=(HB.out.cell (p:=⟨gt,ot+i * 2,none⟩) (World.block_lt_of_cell? w _ h0)).trans h0
      have h1':wr.cell? ⟨gt,ot+i * 2+1,none⟩=some (.int .u64 (n:Nat)):=(HB.out.cell (p:=⟨gt,ot+i * 2+1,none⟩) (World.block_lt_of_cell? w _ h1)).trans h1
      have lgt:=World.block_lt_of_cell? wr _ h0'
      have HSN:=Lib.hid (show initL (t.init.take (i+1)) noLet=putL a (initL (t.init.take i) noLet) by rw [take_snoc hc,initL_snoc])
      generalize hml:initL (t.init.take i) noLet=m at HM HSN
      have HB2:=Lib.hid (HB.out.trans ((initBox_low wr a n).mono HB.out.size))
      have HT2:=Lib.hid (HT.out.below (initBox_low wr a n) HT.out.lt)
      have hms:=HM.out.below (initBox_low wr a n) HM.out.lt
      have HPU:=Lib.hid (put_any (g+1) a m _ hms)
      have ib:=initBox_sits wr a n
      have x0:(initBox wr a n).cell? ⟨wr.heap.size,0,none⟩=some (.int .u8 (a:Nat)):=ib.cell 0
      have lx:=ib.lt
      have i1:(i:Int)<(t.init.length:Int):=by omega
      have i2:(0:Int)<=(i:Int):=by omega
      have HI:=Lib.hid hlt
      clear hc h0 h1 hlt hi hml hms ib
      go_wp2_with fail
      change Calls _ _ _ (initBox wr a n) _
      generalize initBox wr a n=w2 at HB2 HT2 HPU x0 lx ⊢
      refine HPU.out.mono ?_
      rintro e w3 ⟨rfl,hs,hk⟩
      have HM3:=Lib.hid hs
      have HT3:=Lib.hid (HT2.out.keep hk (by omega))
      have HB3:=Lib.hid (behind HB2.out hk HB2.out.size (fun x e=>by have:=HGB.out;omega))
      clear hs hk h0' h1' lgt x0 lx
      go_wp2_with fail
      go_roundg (t.init.length - (i+1))
      case measure=>have:=HI.out;omega
      case rel=>exact ⟨i+1,HI.out,rfl,by go_num,Lib.hid (by rw [HSN.out];exact HM3.out),HT3,HB3⟩
    · obtain rfl:i=t.init.length:=by omega
      have hm:=HM.out
      rw [List.take_length] at hm
      have HMM:=Lib.hid (show Sits wr (g+1) 252 (letC (thrL (t.threads.take 0) (initL t.init noLet))) from hm)
      have q1:wr.cell? ⟨g,1,none⟩=some (.slice pt t.threads.length ct):=HT.out.cell 1
      have lq:=HT.out.lt
      clear hlt hi hm HM
      go_wp2_with fail
      clear q1 lq
      go_loopg [22] t.threads.length (fun gg v22 wx=>∃ i,i<=t.threads.length/\gg=t.threads.length - i/\v22 = .int .i64 (i:Nat)/\Hid (Sits wx (g+1) 252 (letC (thrL (t.threads.take i) (initL t.init noLet))))/\Hid (Sits wx g 40 #[.slice pi t.init.length ci,.slice pt t.threads.length ct,.bool t.all,.pointer pa])/\Hid (Below w.heap.size w wx))
      case atStart=>exact ⟨0,by omega,by omega,rfl,HMM,HT,HB⟩
      case round =>
        obtain ⟨i,hi,rfl,rfl,HM,HT,HB⟩:=hrel
        by_cases hlt:i<t.threads.length
        · have hc:t.threads[i]? = some t.threads[i]:=List.getElem?_eq_getElem hlt
          have HFC:=Lib.hid (HF.out t.threads[i] (List.getElem_mem hlt))
          generalize t.threads[i]=c at hc HFC
          obtain ⟨gt,ot,cp,u,ev,hcell,hst⟩:=HV.out.threads.at hc
          injection ev with ev1 _ ev2
          subst ev1 ev2
          have hcell2:wr.cell? ⟨gt,ot+i,none⟩=some u:=(HB.out.cell (p:=⟨gt,ot+i,none⟩) (World.block_lt_of_cell? w _ hcell)).trans hcell
          have lgt:=World.block_lt_of_cell? wr _ hcell2
          have HST:=Lib.hid (stand_off (g:=g+1) hst HB.out (by have:=HGB.out;omega))
          have HW:=Lib.hid (Walkg_any (loc1_tale (W0:=wr) (g:=g+1)) c u _ wr HFC.out HM.out (Keeps.refl _ _) HST.out)
          have HSN:=Lib.hid (show thrL (t.threads.take (i+1)) (initL t.init noLet)=c.fold locR 8 (thrL (t.threads.take i) (initL t.init noLet)) by rw [take_snoc hc,thrL_snoc])
          obtain ⟨pu,nu,cu,rfl⟩:∃ p n c,u = .slice p n c:=by obtain ⟨p,c,h,_⟩:=hst.len;exact ⟨_,_,_,h⟩
          have i1:(i:Int)<(t.threads.length:Int):=by omega
          have i2:(0:Int)<=(i:Int):=by omega
          have HI:=Lib.hid hlt
          clear hc hst hcell hlt hi
          go_wp2_with fail
          refine HW.out.mono ?_
          rintro e w2 ⟨rfl,hs,hk⟩
          have HM2:=Lib.hid hs
          have HT2:=Lib.hid (HT.out.keep hk (by omega))
          have HB2:=Lib.hid (behind HB.out hk HB.out.size (fun x e=>by have:=HGB.out;omega))
          clear hs hk hcell2 lgt
          go_wp2_with fail
          go_roundg (t.threads.length - (i+1))
          case measure=>have:=HI.out;omega
          case rel=>exact ⟨i+1,HI.out,rfl,by go_num,Lib.hid (by rw [HSN.out];exact HM2.out),HT2,HB2⟩
        · obtain rfl:i=t.threads.length:=by omega
          have hm:=HM.out
          rw [List.take_length] at hm
          have HW:=Lib.hid (WalkE_any (loc2_tale (W0:=wr) (g:=g+1)) t.ask HO.out (.pointer pa) _ (HV.out.ask.below HB.out) hm)
          have q3:wr.cell? ⟨g,3,none⟩=some (.pointer pa):=HT.out.cell 3
          have lq:=HT.out.lt
          clear hlt hi hm HM
          go_wp2_with fail
          refine HW.out.mono ?_
          rintro e w2 ⟨rfl,hs,hk⟩
          have HX:=Lib.hid (text_any (g+1) _ w2 hs)
          have HB2:=Lib.hid (behind HB.out hk HB.out.size (fun x e=>by have:=HGB.out;omega))
          rw [show lettersOf (exFoldO leafL t.ask (thrL t.threads (initL t.init noLet)))=locsF t from rfl] at HX
          obtain ⟨out,ho⟩:∃ out,out=locsF t:=⟨_,rfl⟩
          rw [<- ho] at HX
          have HOUT:=Lib.hid ho
          clear ho
          clear hs hk q3 lq
          go_wp2_with fail
          refine HX.out.mono ?_
          rintro e w3 ⟨rfl,hb⟩
          have HB3:=Lib.hid (HB2.out.trans (hb.mono HB2.out.size))
          clear hb
          go_wp2_with fail
          go_ret
          exact ⟨by rw [<- HOUT.out];rfl,HB3.out⟩
set_option maxRecDepth 100000 in
theorem nob1_any (n ct:Nat) (pt pa pi:Option Addr) (ni ci:Nat) (al:Bool) (e:Ex) (g gt:Nat) (s:Bool) (w:World) (hn:n<=1000) (het:(leafIt e).t<256) (hB:Sits w g 4 (boolC s)) (hT:Sits w gt 40 #[.slice pi ni ci,.slice pt n ct,.bool al,.pointer pa]) :
    Calls Tryz.prog 154 #[leafVal e,.pointer (some ⟨g,0,none⟩),.pointer (some ⟨gt,0,none⟩)] w (ToldS g 4 (boolC (nobodyL n e s)) w):=by
  have b0:w.cell? ⟨g,0,none⟩=some (.bool s):=hB.cell 0
  have f0:=hB.free 0
  have lm:=hB.lt
  have q1:w.cell? ⟨gt,1,none⟩=some (.slice pt n ct):=hT.cell 1
  have lq:=hT.lt
  have HT:=Lib.hid (fun b' o=>boxed_told (b':=b') hB o)
  unfold nobodyL leafVal
  generalize leafIt e=it at het ⊢
  obtain ⟨q,op,nn,t,i,x⟩:=it
  simp only [exprCells]
  have m1:(n:Int)<=1000:=by omega
  have m2:(t:Int)<256:=by have:t<256:=het;omega
  clear het
  cases s with
  | true =>
    rw [Bool.true_or]
    clear hT hB
    go_enter Tryz.func154,Tryz.ntmps154
    go_wp2_with fail
    go_end0
    exact HT.out _ _
  | false =>
    rw [Bool.false_or]
    clear hT hB
    by_cases h:q=2
    · subst h
      rw [decide_eq_true rfl,Bool.true_and]
      by_cases h:n<=t
      · rw [decide_eq_true h]
        have i1:(n:Int)<=(t:Int):=by omega
        clear h
        go_enter Tryz.func154,Tryz.ntmps154
        go_wp2_with fail
        go_end0
        exact HT.out _ _
      · rw [decide_eq_false h]
        have i1:¬ ((n:Int)<=(t:Int)):=by omega
        clear h
        go_enter Tryz.func154,Tryz.ntmps154
        go_wp2_with fail
        go_end0
        exact HT.out _ _
    · rw [decide_eq_false h,Bool.false_and]
      have i1:((q:Int) == 2)=false:=beq_eq_false_iff_ne.2 (by omega)
      clear h
      go_enter Tryz.func154,Tryz.ntmps154
      go_wp2_with fail
      go_end0
      exact HT.out _ _
theorem leaf_few {e:Ex} (ho:e.ok):(leafIt e).t<256:=by
  cases e with
  | of t i=>have:=ho.1;show t<256;omega
  | _=>simp [leafIt]
theorem nob1_enters:Expr.Enters 154:=enters_of Tryz.func154 (by kernel_rfl) rfl
theorem nob1_tale {n ct:Nat} {pt pa pi:Option Addr} {ni ci:Nat} {al:Bool} {W0:World} {g gt:Nat} {b:Bool} (hn:n<=1000) (hB:Sits W0 g 4 (boolC b)) (hT:Sits W0 gt 40 #[.slice pi ni ci,.slice pt n ct,.bool al,.pointer pa]) :
    TaleE 154 g 4 #[.pointer (some ⟨g,0,none⟩),.pointer (some ⟨gt,0,none⟩)] boolC (nobodyL n) W0 where
  enters:=nob1_enters
  neE:=by decide
  call:=fun e s w _ ho h1 h2=>nob1_any n ct pt pa pi ni ci al e g gt s w hn (leaf_few ho) h1 (hT.keep h2 (fun e=>hT.differ hB (by decide) e))
set_option maxRecDepth 100000 in
theorem nobody_any (t:Ts) (ht:t.small) (vi vt va:Value) (w:World) (hV:TestV w t vi vt va) :
    Calls Tryz.prog 92 #[testAgg vi vt t.all va] w fun e w'=>Made (.returned (.bool (nobodyF t))) w e w':=by
  obtain ⟨pi,ci,rfl⟩:=hV.init.len
  obtain ⟨pt,ct,rfl⟩:=hV.threads.len
  obtain ⟨pa,rfl,_⟩:=hV.ask.ptr
  have hb1:Below w.heap.size w ((w.alloc (.cells #[.slice pi t.init.length ci,.slice pt t.threads.length ct,.bool t.all,.pointer pa] 40)).alloc (.cells #[.bool false] 4)):=((Below.refl _ w).alloc (Nat.le_refl _) _).alloc (by simp) _
  have HB1:=Lib.hid hb1
  have hT1:Sits ((w.alloc (.cells #[.slice pi t.init.length ci,.slice pt t.threads.length ct,.bool t.all,.pointer pa] 40)).alloc (.cells #[.bool false] 4)) w.heap.size 40 #[.slice pi t.init.length ci,.slice pt t.threads.length ct,.bool t.all,.pointer pa]:=(Sits.new _ _ _).alloc _
  have hM1:Sits ((w.alloc (.cells #[.slice pi t.init.length ci,.slice pt t.threads.length ct,.bool t.all,.pointer pa] 40)).alloc (.cells #[.bool false] 4)) (w.heap.size+1) 4 (boolC false):=Sits.made (by simp) _ _
  have HW:=Lib.hid (WalkE_any (nob1_tale ht.threads hM1 hT1) t.ask ht.ask (.pointer pa) false (hV.ask.below hb1) hM1)
  have HT1:=Lib.hid hT1
  have q3:=hT1.cell 3
  have lq:=hT1.lt
  rw [show exFoldO (nobodyL t.threads.length) t.ask false=nobodyF t from rfl] at HW
  generalize nobodyF t=r at HW ⊢
  clear hV hb1 ht hT1 hM1
  simp only [testAgg]
  go_enter Tryz.func92,Tryz.ntmps92
  go_wp2_with fail
  refine HW.out.mono ?_
  rintro e w2 ⟨rfl,hs,hk⟩
  have HB2:=Lib.hid (behind HB1.out hk HB1.out.size (fun x e=>by omega))
  have c0:w2.cell? ⟨w.heap.size+1,0,none⟩=some (.bool r):=hs.cell 0
  have lm:=hs.lt
  clear hs hk q3 lq
  go_wp2_with fail
  go_ret
  exact ⟨rfl,HB2.out⟩
end Go.Proofs.YtagebkachdmnbaaGreatDoor.Chk
end
section
namespace Go.Proofs.YtagebkachdmnbaaGreatDoor.Chk
open Go.RowKit Go.Proofs.YtagebkachdmnbaaGreatDoor.Mem Go.Proofs.YtagebkachdmnbaaGreatDoor.Expr Go.Proofs.YtagebkachdmnbaaGreatDoor.Prog Go.Lib
theorem tooDeep_enters:Expr.Enters 88:=enters_of Tryz.func88 (by kernel_rfl) rfl
set_option maxRecDepth 100000 in
theorem deepIdx_any (bs:List Blk) (v:Value) (w:World) (hl:bs.length<=1000) (hS:Threads w v bs) :
    Calls Tryz.prog 149 #[v,.func (.func 88) #[] #[]] w fun e w'=>(∃ k:Int,e = .returned (.int .i64 k)/\decide (0<=k)=bs.any (fun b=>decide (8<b.deep)))/\Below w.heap.size w w':=by
  obtain ⟨p,cap,rfl⟩:=hS.len
  have en:=tooDeep_enters
  unfold Expr.Enters at en
  have HS:=Lib.hid hS
  have HB1:=Lib.hid (Below.refl w.heap.size w)
  have m1:(bs.length:Int)<=1000:=by omega
  clear hS hl
  go_enter Tryz.func149,Tryz.ntmps149
  go_wp2_with fail
  go_loopg [8] bs.length (fun gg v8 wx=>∃ i,i<=bs.length/\gg=bs.length - i/\v8 = .int .i64 (i:Nat)/\Hid (Below w.heap.size w wx)/\Hid (bs.any (fun b=>decide (8<b.deep))=(bs.drop i).any (fun b=>decide (8<b.deep))))
  case atStart=>exact ⟨0,by omega,by omega,rfl,HB1,Lib.hid rfl⟩
  case round =>
    obtain ⟨i,hi,rfl,rfl,HB,HE⟩:=hrel
    by_cases hlt:i<bs.length
    · have hc:bs[i]? = some bs[i]:=List.getElem?_eq_getElem hlt
      generalize bs[i]=c at hc
      obtain ⟨gt,ot,cp,u,ev,hcell,hst⟩:=HS.out.at hc
      injection ev with ev1 _ ev2
      subst ev1 ev2
      have hcell2:wr.cell? ⟨gt,ot+i,none⟩=some u:=(HB.out.cell (p:=⟨gt,ot+i,none⟩) (World.block_lt_of_cell? w _ hcell)).trans hcell
      have lgt:=World.block_lt_of_cell? wr _ hcell2
      have HT:=Lib.hid (tooDeep_any c u wr (hst.below HB.out))
      have hd:=HE.out
      rw [drop_at hc,List.any_cons] at hd
      have HD:=Lib.hid hd
      obtain ⟨pu,nu,cu,rfl⟩:∃ p n c,u = .slice p n c:=by obtain ⟨p,c,h,_⟩:=hst.len;exact ⟨_,_,_,h⟩
      have i1:(i:Int)<(bs.length:Int):=by omega
      have i2:(0:Int)<=(i:Int):=by omega
      have HI:=Lib.hid hlt
      clear hc hst hcell hlt hi hd
      cases hq:decide (8<c.deep) with
      | true =>
        rw [hq] at HT HD
        clear hq
        go_wp2_with fail
        refine HT.out.mono ?_
        rintro e w2 ⟨rfl,hb⟩
        have HB2:=Lib.hid (HB.out.trans (hb.mono HB.out.size))
        clear hb hcell2 lgt
        go_wp2_with fail
        go_ret
        exact ⟨⟨_,rfl,by rw [HD.out];simp⟩,HB2.out⟩
      | false =>
        rw [hq] at HT HD
        clear hq
        go_wp2_with fail
        refine HT.out.mono ?_
        rintro e w2 ⟨rfl,hb⟩
        have HB2:=Lib.hid (HB.out.trans (hb.mono HB.out.size))
        clear hb hcell2 lgt
        go_wp2_with fail
        go_roundg (bs.length - (i+1))
        case measure=>have:=HI.out;omega
        case rel=>exact ⟨i+1,HI.out,rfl,by go_num,HB2,Lib.hid (by rw [HD.out,Bool.false_or])⟩
    · obtain rfl:i=bs.length:=by omega
      have hd:=HE.out
      rw [List.drop_length] at hd
      have HD:=Lib.hid hd
      clear hlt hi hd
      go_wp2_with fail
      go_ret
      exact ⟨⟨-1,rfl,by rw [HD.out];rfl⟩,HB.out⟩
set_option maxRecDepth 100000 in
theorem anyDeep_any (bs:List Blk) (v:Value) (w:World) (hl:bs.length<=1000) (hS:Threads w v bs) :
    Calls Tryz.prog 87 #[v,.func (.func 88) #[] #[]] w fun e w'=>Made (.returned (.bool (bs.any (fun b=>decide (8<b.deep))))) w e w':=by
  have H:=Lib.hid (deepIdx_any bs v w hl hS)
  obtain ⟨p,cap,rfl⟩:=hS.len
  clear hS hl
  generalize bs.any (fun b=>decide (8<b.deep))=r at H ⊢
  go_enter Tryz.func87,Tryz.ntmps87
  go_wp2_with fail
  refine H.out.mono ?_
  rintro e w' ⟨⟨k,rfl,hk⟩,hb⟩
  have HB:=Lib.hid hb
  clear hb
  go_wp2_with fail
  go_ret
  exact ⟨by rw [<- hk];rfl,HB.out⟩
def Asks (W:World) (u:Value) (r:Nat):Prop:=∃ p q:Value,u = .func (.func 138) #[] #[p,q]/\∀ W',Below W.heap.size W W' -> Calls Tryz.prog 138 #[p,q] W' (Made (.returned (.int .i64 (r:Nat))) W')
theorem Asks.below {W W':World} {u:Value} {r:Nat} (h:Asks W u r) (hb:Below W.heap.size W W'):Asks W' u r:=by
  obtain ⟨p,q,hu,h⟩:=h
  exact ⟨p,q,hu,fun W2 h2=>h W2 (hb.trans (h2.mono hb.size))⟩
def firstE:List Nat->Nat
  | []=>0
  | e :: l=>if e=0 then firstE l else e
theorem when1_enters:Expr.Enters 138:=enters_of Tryz.func138 (by kernel_rfl) rfl
set_option maxRecDepth 100000 in
theorem when1_any (F:FuncId) (c:Array Value) (en:Expr.Enters F) (gf ge e:Nat) (b:Bool) (w:World) (hf:Sits w gf 29 #[.func (.func F) #[] c]) (he:Sits w ge 34 #[.int .i64 (e:Nat)])
    (H:Calls Tryz.prog F c w (Made (.returned (.bool b)) w)):Calls Tryz.prog 138 #[.pointer (some ⟨gf,0,none⟩),.pointer (some ⟨ge,0,none⟩)] w (Made (.returned (.int .i64 ((if b then e else 0:Nat)))) w):=by
  have HH:=Lib.hid H
  have f0:=hf.cell 0
  have lf:=hf.lt
  have HEE:=Lib.hid he
  unfold Expr.Enters at en
  clear H hf he
  cases b with
  | true =>
    go_enter Tryz.func138,Tryz.ntmps138
    go_wp2_with fail
    refine HH.out.mono ?_
    rintro e' w' ⟨rfl,hb⟩
    have h1:=HEE.out.below hb HEE.out.lt
    have e0:=h1.cell 0
    have le:=h1.lt
    have HB:=Lib.hid hb
    clear hb h1 f0 lf
    go_wp2_with fail
    go_ret
    exact ⟨rfl,HB.out⟩
  | false =>
    go_enter Tryz.func138,Tryz.ntmps138
    go_wp2_with fail
    refine HH.out.mono ?_
    rintro e' w' ⟨rfl,hb⟩
    have HB:=Lib.hid hb
    clear hb f0 lf
    go_wp2_with fail
    go_ret
    exact ⟨rfl,HB.out⟩
def WhenMade (W:World) (r:Nat) (e:Ending) (W':World):Prop:=∃ p q:Value,e = .returned (.func (.func 138) #[] #[p,q])/\Asks W' (.func (.func 138) #[] #[p,q]) r/\Below W.heap.size W W'
set_option maxRecDepth 100000 in
theorem when_any (F:FuncId) (c:Array Value) (en:Expr.Enters F) (e:Nat) (b:Bool) (w:World) (H:∀ W,Below w.heap.size w W->Calls Tryz.prog F c W (Made (.returned (.bool b)) W)) :
    Calls Tryz.prog 77 #[.int .i64 (e:Nat),.func (.func F) #[] c] w (WhenMade w (if b then e else 0)):=by
  have hb1:Below w.heap.size w ((w.alloc (.cells #[.int .i64 (e:Nat)] 34)).alloc (.cells #[.func (.func F) #[] c] 29)):=((Below.refl _ w).alloc (Nat.le_refl _) _).alloc (by simp) _
  have hf:Sits ((w.alloc (.cells #[.int .i64 (e:Nat)] 34)).alloc (.cells #[.func (.func F) #[] c] 29)) (w.heap.size+1) 29 #[.func (.func F) #[] c]:=Sits.made (by simp) _ _
  have he:Sits ((w.alloc (.cells #[.int .i64 (e:Nat)] 34)).alloc (.cells #[.func (.func F) #[] c] 29)) w.heap.size 34 #[.int .i64 (e:Nat)]:=(Sits.new _ _ _).alloc _
  have HR:=Lib.hid (show WhenMade w (if b then e else 0) (.returned (.func (.func 138) #[] #[.pointer (some ⟨w.heap.size+1,0,none⟩),.pointer (some ⟨w.heap.size,0,none⟩)])) ((w.alloc (.cells #[.int .i64 (e:Nat)] 34)).alloc (.cells #[.func (.func F) #[] c] 29)) from
    ⟨_,_,rfl,⟨_,_,rfl,fun W' h=>when1_any F c en _ _ e b W' (hf.below h hf.lt) (he.below h he.lt) (H W' (hb1.trans (h.mono hb1.size)))⟩,hb1⟩)
  generalize (if b then e else 0)=r at HR ⊢
  clear H hb1 hf he
  go_enter Tryz.func77,Tryz.ntmps77
  go_wp2_with fail
  go_ret
  exact HR.out
set_option maxRecDepth 100000 in
theorem first_any (es:List Nat) (g:Nat) (us:List Value) (w:World) (hl:es.length<=1000) (hu:us.length=es.length) (hS:Sits w g 177 us.toArray) (hA:∀ (i:Nat) (u:Value) (r:Nat),us[i]? = some u->es[i]? = some r->Asks w u r) :
    Calls Tryz.prog 76 #[.slice (some ⟨g,0,none⟩) us.length us.length] w (Made (.returned (.int .i64 (firstE es:Nat))) w):=by
  have HS:=Lib.hid hS
  have HA:=Lib.hid hA
  have HB1:=Lib.hid (Below.refl w.heap.size w)
  have en:=when1_enters
  unfold Expr.Enters at en
  have HU:=Lib.hid hu
  have m1:(us.length:Int)<=1000:=by omega
  clear hS hA hl hu
  go_enter Tryz.func76,Tryz.ntmps76
  go_wp2_with fail
  go_loopg [8] us.length (fun gg v8 wx=>∃ i,i<=us.length/\gg=us.length - i/\v8 = .int .i64 (i:Nat)/\Hid (Below w.heap.size w wx)/\Hid (firstE es=firstE (es.drop i)))
  case atStart=>exact ⟨0,by omega,by omega,rfl,HB1,Lib.hid rfl⟩
  case round =>
    obtain ⟨i,hi,rfl,rfl,HB,HE⟩:=hrel
    by_cases hlt:i<us.length
    · have hc:us[i]? = some us[i]:=List.getElem?_eq_getElem hlt
      generalize us[i]=u at hc
      have hr:es[i]? = some es[i]:=List.getElem?_eq_getElem (by have:=HU.out;omega)
      generalize es[i]=r at hr
      obtain ⟨p,q,rfl,ha⟩:=HA.out i u r hc hr
      have HC:=Lib.hid (ha wr HB.out)
      have hs:=HS.out.below HB.out HS.out.lt
      have hcell:wr.cell? ⟨g,i,none⟩=some (.func (.func 138) #[] #[p,q]):=(hs.cell i).trans (by rw [List.getElem?_toArray];exact hc)
      have lg:=hs.lt
      have hd:=HE.out
      rw [drop_at hr,firstE] at hd
      have i1:(i:Int)<(us.length:Int):=by omega
      have i2:(0:Int)<=(i:Int):=by omega
      have HI:=Lib.hid hlt
      clear hc hr ha hs hlt hi
      by_cases h0:r=0
      · subst h0
        rw [if_pos rfl] at hd
        have HD:=Lib.hid hd
        clear hd
        go_wp2_with fail
        refine HC.out.mono ?_
        rintro e w2 ⟨rfl,hb⟩
        have HB2:=Lib.hid (HB.out.trans (hb.mono HB.out.size))
        clear hb hcell lg
        go_wp2_with fail
        go_roundg (us.length - (i+1))
        case measure=>have:=HI.out;omega
        case rel=>exact ⟨i+1,HI.out,rfl,by go_num,HB2,HD⟩
      · rw [if_neg h0] at hd
        have HD:=Lib.hid hd
        have n1:((r:Int) == 0)=false:=beq_eq_false_iff_ne.2 (by omega)
        have n2:((r:Int) != 0)=true:=bne_iff_ne.2 (by omega)
        clear hd h0
        go_wp2_with fail
        refine HC.out.mono ?_
        rintro e w2 ⟨rfl,hb⟩
        have HB2:=Lib.hid (HB.out.trans (hb.mono HB.out.size))
        clear hb hcell lg
        go_wp2_with fail
        go_ret
        exact ⟨by rw [HD.out];rfl,HB2.out⟩
    · obtain rfl:i=us.length:=by omega
      have hd:=HE.out
      rw [HU.out,List.drop_length] at hd
      have HD:=Lib.hid (show firstE es=0 from hd)
      clear hlt hi hd
      go_wp2_with fail
      go_ret
      exact ⟨by rw [HD.out];rfl,HB.out⟩
end Go.Proofs.YtagebkachdmnbaaGreatDoor.Chk
end
