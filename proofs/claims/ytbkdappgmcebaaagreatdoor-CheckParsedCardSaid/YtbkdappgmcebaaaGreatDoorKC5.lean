/- Part 26 of the proof: what is used of the texts StmD. -/
import Derived.Test.YtbkdappgmcebaaaGreatDoorKA9
import Derived.Test.YtbkdappgmcebaaaGreatDoorKB3
section
namespace Go.Proofs.YtbkdappgmcebaaaGreatDoor.Prog
open Go.RowKit Go.Proofs.YtbkdappgmcebaaaGreatDoor.Mem Go.Proofs.YtbkdappgmcebaaaGreatDoor.Expr Go.Proofs.YtbkdappgmcebaaaGreatDoor.Flow Go.Lib
theorem textO_any (a:Option Ex) (ho:okO a) (v:Value) (w:World) (hX:Tabs w) (hT:Tree w (trO a) v):Calls Tryz.prog 67 #[v] w fun e' w'=>Made (.returned (.string (str (exO a)))) w e' w':=by
  cases a with
  | none=>exact text_not .nil v w hT rfl
  | some e=>exact text_any e ho.1 ho.2 v w hX hT
def PutDone (w0:World) (b:Nat) (l:List UInt8) (w:World) (e:Ending) (w':World):Prop:=e = .returned (.tuple #[])/\Bld w0 b l w' /\ Moved b w w'
theorem put_line (w0:World) (b d:Nat) (l:List UInt8) (ws:List (List UInt8)) (gb gm:Nat) (vw:Value) (w:World) (hd:d<=8) (hB:Bld w0 b l w)
    (h1:Sits w gb 119 #[.pointer (some ⟨b,0,none⟩)]) (h2:Sits w gm 9 #[.string (str (indent d))])
    (hw:Words w vw ws) (hn:ws.length<=100) (hlen:l.length+ws.flatten.length<=110000000000000) :
    Calls Tryz.prog 121 #[vw,.pointer (some ⟨gb,0,none⟩),.pointer (some ⟨gm,0,none⟩)] w (PutDone w0 b (l ++ line d ws.flatten) w) :=
  line1_any w0 b d l ws gb gm vw w hB h1 h2 hw hn (by omega)
theorem words1 (w:World) (x:List UInt8):Words (w.alloc (.cells #[.string (str x)] 9)) (.slice (some ⟨w.heap.size,0,none⟩) 1 1) [x]:=⟨w.heap.size,rfl,Sits.new _ _ _⟩
theorem StAt.below {w w':World} {g o:Nat} {m:Mk} {av bv tv ev:Value} (h:StAt w g o m av bv tv ev) (hb:Below w.heap.size w w'):StAt w' g o m av bv tv ev:=by
  obtain ⟨h0,h1,h2,h3,h4,h5,h6,h7⟩:=h
  have k:=cell_below (U:=any_) hb g trivial
  exact ⟨k _ _ h0,k _ _ h1,k _ _ h2,k _ _ h3,k _ _ h4,k _ _ h5,k _ _ h6,k _ _ h7⟩
theorem line_len (d:Nat) (s:List UInt8):(line d s).length=2 * d+(s.length+1):=by simp [line,indent]
theorem flat8 (rg mo lo:Nat) (a b:Option Ex):[[105,102,32,40],exO a,[41,32,123]].flatten=headOf ⟨8,rg,mo,lo,a,b⟩:=by simp [headOf]
theorem flat9 (rg mo lo:Nat) (a b:Option Ex):[[119,104,105,108,101,32,40],exO a,[41,32,123]].flatten=headOf ⟨9,rg,mo,lo,a,b⟩:=by simp [headOf]
theorem joined1 (x:List UInt8):joined [x]=x:=Lib.join_one x [44,32]
theorem flat7 (rg mo lo:Nat) (a b:Option Ex):[callTxt [102,101,110,99,101] [modeTxt mo]].flatten=headOf ⟨7,rg,mo,lo,a,b⟩:=by simp [headOf,callTxt,joined1]
def stBox (w:World) (m:Mk) (pa pb:Option Addr) (tv ev:Value):World:=w.alloc (.cells #[.int .u8 m.kind,.int .u8 m.reg,.int .u8 m.mode,.int .u8 m.loc,.pointer pa,.pointer pb,tv,ev] 150)
structure On (w0 w:World) (bB d gb gm bx:Nat) (cs:Array Value) (l:List UInt8) (W:World):Prop where
  bld:Bld w0 bB l W
  mov:Moved bB w W
  q1:Sits W gb 119 #[.pointer (some ⟨bB,0,none⟩)]
  q2:Sits W gm 9 #[.string (str (indent d))]
  box:Sits W bx 150 cs
section
variable {w0 w W W' : World} {bB d gb gm bx : Nat} {cs : Array Value} {l l' : List UInt8}
theorem On.grown (h:On w0 w bB d gb gm bx cs l W) (hb:Below W.heap.size W W'):On w0 w bB d gb gm bx cs l W' :=
  ⟨h.bld.grown hb,h.mov.trans (Moved.below hb),h.q1.below hb h.q1.lt,h.q2.below hb h.q2.lt,h.box.below hb h.box.lt⟩
theorem On.put (h:On w0 w bB d gb gm bx cs l W) (hB:Bld w0 bB l' W') (k:Moved bB W W'):On w0 w bB d gb gm bx cs l' W' :=
  ⟨hB,h.mov.trans k,Sits.moved h.q1 k (by decide) (h.bld.far h.q1 (by decide)),Sits.moved h.q2 k (by decide) (h.bld.far h.q2 (by decide)),Sits.moved h.box k (by decide) (h.bld.far h.box (by decide))⟩
theorem On.line (h:On w0 w bB d gb gm bx cs l W) (ws:List (List UInt8)) (hd:d<=8) (hn:ws.length<=100) (hlen:l.length+ws.flatten.length<=110000000000000) :
    Calls Tryz.prog 121 #[.slice (some ⟨W.heap.size,0,none⟩) ws.length ws.length,.pointer (some ⟨gb,0,none⟩),.pointer (some ⟨gm,0,none⟩)] (W.alloc (.cells (words ws) 9))
      fun e w'=>e = .returned (.tuple #[])/\On w0 w bB d gb gm bx cs (l ++ line d ws.flatten) w':=by
  have h1:=h.grown ((Below.refl _ _).alloc (Nat.le_refl _) (.cells (words ws) 9))
  refine (put_line w0 bB d l ws gb gm _ _ hd h1.bld h1.q1 h1.q2 ⟨W.heap.size,rfl,Sits.new _ _ _⟩ hn hlen).mono ?_
  rintro e w' ⟨rfl,hB,hM⟩
  exact ⟨rfl,h1.put hB hM⟩
theorem On.more (h:On w0 w bB d gb gm bx cs l W) (c:Blk) (v:Value) (hc:Stand any_ w0 c v) (hlen:l.length+240000 * c.size<=100000000000000)
    (IH:∀ (l:List UInt8) (v:Value) (w:World),Stand any_ w0 c v->Bld w0 bB l w->l.length+240000 * c.size<=100000000000000 ->
      Calls Tryz.prog 65 #[.pointer (some ⟨bB,0,none⟩),v,.int .i64 ((d:Int)+1)] w (PutDone w0 bB (l ++ c.text (d+1)) w)) :
    Calls Tryz.prog 65 #[.pointer (some ⟨bB,0,none⟩),v,.int .i64 ((d:Int)+1)] W fun e w'=>e = .returned (.tuple #[])/\On w0 w bB d gb gm bx cs (l ++ c.text (d+1)) w':=by
  refine (IH l v W hc h.bld hlen).mono ?_
  rintro e w' ⟨rfl,hB,hM⟩
  exact ⟨rfl,h.put hB hM⟩
end
theorem On.lineW {w0 w W:World} {bB d gb gm bx:Nat} {cs:Array Value} {l:List UInt8} (h:On w0 w bB d gb gm bx cs l W) (ws:List (List UInt8)) (vw:Value) (hw:Words W vw ws) (hd:d<=8) (hn:ws.length<=100) (hlen:l.length+ws.flatten.length<=110000000000000) :
    Calls Tryz.prog 121 #[vw,.pointer (some ⟨gb,0,none⟩),.pointer (some ⟨gm,0,none⟩)] W fun e w'=>e = .returned (.tuple #[])/\On w0 w bB d gb gm bx cs (l ++ Go.Proofs.YtbkdappgmcebaaaGreatDoor.Prog.line d ws.flatten) w':=by
  refine (put_line w0 bB d l ws gb gm _ _ hd h.bld h.q1 h.q2 hw hn hlen).mono ?_
  rintro e w' ⟨rfl,hB,hM⟩
  exact ⟨rfl,h.put hB hM⟩
theorem joined2 (x y:List UInt8):joined [x,y]=x ++ 44 :: 32 :: y:=by simp [joined,Lib.join_cons,Lib.joinTail]
theorem joined3 (x y z:List UInt8):joined [x,y,z]=x ++ 44 :: 32 :: (y ++ 44 :: 32 :: z):=by simp [joined,Lib.join_cons,Lib.joinTail]
theorem joined4 (x y z u:List UInt8):joined [x,y,z,u]=x ++ 44 :: 32 :: (y ++ 44 :: 32 :: (z ++ 44 :: 32 :: u)):=by simp [joined,Lib.join_cons,Lib.joinTail]
theorem flat1 (rg mo lo:Nat) (a b:Option Ex):[114 :: dec rg,[32,61,32],exO a,[59]].flatten=headOf ⟨1,rg,mo,lo,a,b⟩:=by simp [headOf]
theorem flat2 (rg mo lo:Nat) (a b:Option Ex):[114 :: dec rg,[32,61,32],callTxt [108,111,97,100] [[lo.toUInt8],modeTxt mo]].flatten=headOf ⟨2,rg,mo,lo,a,b⟩:=by simp [headOf,callTxt,joined2]
theorem flat3 (rg mo lo:Nat) (a b:Option Ex):[callTxt [115,116,111,114,101] [[lo.toUInt8],exO a,modeTxt mo]].flatten=headOf ⟨3,rg,mo,lo,a,b⟩:=by simp [headOf,callTxt,joined3]
theorem flat4 (rg mo lo:Nat) (a b:Option Ex):[114 :: dec rg,[32,61,32],callTxt [115,119,97,112] [[lo.toUInt8],exO a,modeTxt mo]].flatten=headOf ⟨4,rg,mo,lo,a,b⟩:=by simp [headOf,callTxt,joined3]
theorem flat5 (rg mo lo:Nat) (a b:Option Ex):[114 :: dec rg,[32,61,32],callTxt [97,100,100] [[lo.toUInt8],exO a,modeTxt mo]].flatten=headOf ⟨5,rg,mo,lo,a,b⟩:=by simp [headOf,callTxt,joined3]
theorem flat6 (rg mo lo:Nat) (a b:Option Ex):[114 :: dec rg,[32,61,32],callTxt [99,97,115] [[lo.toUInt8],exO a,exO b,modeTxt mo]].flatten=headOf ⟨6,rg,mo,lo,a,b⟩:=by simp [headOf,callTxt,joined4]
def putV (gb gm:Nat):Value:=.func (.func 121) #[] #[.pointer (some ⟨gb,0,none⟩),.pointer (some ⟨gm,0,none⟩)]
theorem On.made {w0 w wr:World} {bB d gb gm:Nat} {l:List UInt8} (m:Mk) (pa pb:Option Addr) (tv ev:Value) (hB:Bld w0 bB l wr) (hM:Moved bB w wr) (h1:Sits wr gb 119 #[.pointer (some ⟨bB,0,none⟩)])
    (h2:Sits wr gm 9 #[.string (str (indent d))]):On w0 w bB d gb gm wr.heap.size #[.int .u8 m.kind,.int .u8 m.reg,.int .u8 m.mode,.int .u8 m.loc,.pointer pa,.pointer pb,tv,ev] l (stBox wr m pa pb tv ev):=by
  have hb:Below wr.heap.size wr (stBox wr m pa pb tv ev):=(Below.refl _ _).alloc (Nat.le_refl _) _
  exact ⟨hB.grown hb,hM.trans (Moved.below hb),h1.below hb h1.lt,h2.below hb h2.lt,Sits.new _ _ _⟩
def PutInv (w0 w:World) (p:Option Addr) (b:Blk) (bB d gb gm:Nat) (l:List UInt8) (gg:Nat) (v16:Value) (wx:World):Prop :=
  ∃ (q r:Blk),gg=r.len/\b.len=q.len+r.len/\v16 = .int .i64 (q.len:Nat)/\Hid (b=q.app r)/\Hid (Rests w0 p b.len r q.len)/\Hid (Bld w0 bB (l ++ q.text d) wx)/\Hid (Moved bB w wx) /\
    Hid (Sits wx gb 119 #[.pointer (some ⟨bB,0,none⟩)])/\Hid (Sits wx gm 9 #[.string (str (indent d))])
theorem On.close {w0 w W:World} {bB d gb gm bx:Nat} {cs:Array Value} {l L:List UInt8} {p:Option Addr} {b q r t e:Blk} {m:Mk} (h:On w0 w bB d gb gm bx cs L W) (hd:d<=8) (hE:b=q.app (.cons m t e r)) (hN:Rests w0 p b.len r (q.len+1))
    (hL:L=l ++ q.text d ++ ownTxt m t e d):PutInv w0 w p b bB d gb gm l r.len (.int .i64 ((q.len:Int)+1)) W:=by
  refine ⟨q.snoc m t e,r,rfl,?_,?_,Lib.hid (by rw [Blk.snoc_app];exact hE),Lib.hid (by rw [Blk.len_snoc];exact hN),Lib.hid ?_,Lib.hid h.mov,Lib.hid h.q1,Lib.hid h.q2⟩
  · rw [hE,Blk.len_app,Blk.len_snoc];simp only [Blk.len];omega
  · rw [Blk.len_snoc];rfl
  · rw [Blk.text_snoc _ _ _ _ _ hd,<- List.append_assoc,<- hL];exact h.bld
set_option maxRecDepth 100000 in
set_option maxHeartbeats 4000000 in
theorem put_loop (w0:World) (hX:All w0) (bB:Nat) (b:Blk) (hf:b.fine) (d:Nat) (hd:d<=8) (l:List UInt8) (v:Value) (w:World) (hS:Stand any_ w0 b v) (hB:Bld w0 bB l w) (hlen:l.length+240000 * b.size<=100000000000000)
    (IH:∀ (c:Blk),c.size<b.size->c.fine->∀ (l:List UInt8) (v:Value) (w:World),Stand any_ w0 c v->Bld w0 bB l w->l.length+240000 * c.size<=100000000000000 ->
      Calls Tryz.prog 65 #[.pointer (some ⟨bB,0,none⟩),v,.int .i64 ((d:Int)+1)] w (PutDone w0 bB (l ++ c.text (d+1)) w)) :
    Calls Tryz.prog 65 #[.pointer (some ⟨bB,0,none⟩),v,.int .i64 (d:Nat)] w (PutDone w0 bB (l ++ b.text d) w):=by
  have HLn:=Lib.hid (linesOf_any bB d (by omega))
  have HB:=Lib.hid hB
  have i1:(d:Int)<=8:=by omega
  obtain ⟨p,cap,rfl,hl,hr⟩:=hS.rests
  have HR:=Lib.hid hr
  have HIH:=Lib.hid IH
  have HX:=Lib.hid hX
  have HLEN:=Lib.hid hlen
  have HF:=Lib.hid hf
  have HD:=Lib.hid hd
  have i2:(b.len:Int)<=1000000:=by omega
  clear hS hB IH hlen hr hX hf hd hl
  go_enter Tryz.func65,Tryz.ntmps65
  go_wp2_with fail
  refine (HLn.out _).mono ?_
  rintro e w1 ⟨vp,rfl,hp,hb⟩
  have HB1:=Lib.hid (HB.out.grown hb)
  have HM1:=Lib.hid (Moved.below hb (b:=bB))
  obtain ⟨gb,gm,rfl,hp1,hp2⟩:=hp.fn
  have HP1:=Lib.hid hp1
  have HP2:=Lib.hid hp2
  clear hp hb hp1 hp2 HB HLn
  go_wp2_with fail
  go_loopg [16] b.len (fun gg v16 wx=>PutInv w0 w p b bB d gb gm l gg v16 wx)
  case atStart=>exact ⟨Blk.nil,b,rfl,by simp [Blk.len],rfl,Lib.hid rfl,HR,Lib.hid (by simpa [Blk.text] using HB1.out),HM1,HP1,HP2⟩
  case round =>
    obtain ⟨q,r,rfl,hlen,rfl,HE,HRr,HBx,HMx,HQ1,HQ2⟩:=hrel
    cases r with
    | nil =>
      have e:b.len=q.len:=by simpa [Blk.len] using hlen
      have HEq:=Lib.hid (show b=q by rw [HE.out,Blk.app_nil])
      have i3:¬ ((q.len:Int)<(b.len:Int)):=by omega
      clear e hlen
      go_wp2_with fail
      go_end0
      exact ⟨rfl,by rw [HEq.out];exact HBx.out,HMx.out⟩
    | cons m t e r =>
      obtain ⟨g,o,rfl,hk,hr',av,bv,tv,ev,hst,hta,htb,hst1,hst2⟩:=HRr.out.next
      obtain ⟨oa,ob,hr256,hmo,hlo,hki,ft,fe,fr⟩:=Blk.fine_app (HE.out ▸ HF.out)
      have hsz:b.size=q.size+(t.size+e.size+r.size+1):=by rw [HE.out,Blk.size_app];rfl
      have HSZ:=Lib.hid hsz
      have hlw:=HBx.out.low
      have hfarl:(q.text d).length<=240000 * q.size:=Blk.text_len (Blk.fine_left (HE.out ▸ HF.out)) d
      have HQL:=Lib.hid hfarl
      have HNX:=Lib.hid hr'
      have HA:=Lib.hid (fun W (h:Below w0.heap.size w0 W)=>textO_any m.a oa av W (HX.out.1.below h) (hta.below h))
      have HBB:=Lib.hid (fun W (h:Below w0.heap.size w0 W)=>textO_any m.b ob bv W (HX.out.1.below h) (htb.below h))
      have HTT:=Lib.hid hst1
      have HEE:=Lib.hid hst2
      have HFT:=Lib.hid ft
      have HFE:=Lib.hid fe
      obtain ⟨pa,rfl,_⟩:=hta.ptr
      obtain ⟨pb,rfl,_⟩:=htb.ptr
      obtain ⟨c0,c1,c2,c3,c4,c5,c6,c7⟩:=hst.below hlw
      have lg:=World.block_lt_of_cell? _ _ c0
      obtain ⟨pt,ct,rfl,_⟩:=hst1.len
      obtain ⟨pe,ce,rfl,_⟩:=hst2.len
      have lq:(q.len:Int)<(b.len:Int):=by omega
      have lq0:(0:Int)<=(q.len:Int):=by omega
      have HLN:=Lib.hid hlen
      have HOA:=Lib.hid oa
      have HOB:=Lib.hid ob
      have HR2:=Lib.hid hr256
      clear hst hta htb hst1 hst2 ft fe fr hsz hlw hfarl hr' oa ob hlen
      obtain ⟨k,rg,mo,lo,a,bb⟩:=m
      simp only at c0 c1 c2 c3 hmo hlo hki hr256
      by_cases k8:k=8
      · subst k8
        have HO0:=Lib.hid (On.made (w:=w) ⟨8,rg,mo,lo,a,bb⟩ pa pb (.slice pt t.len ct) (.slice pe e.len ce) HBx.out HMx.out HQ1.out HQ2.out)
        have HH:Hid ((headOf ⟨8,rg,mo,lo,a,bb⟩).length<=230000):=Lib.hid (head_len HOA.out HOB.out HR2.out)
        have HOWN:=Lib.hid (own_8 (m:=⟨8,rg,mo,lo,a,bb⟩) t e HD.out rfl)
        go_wp2_with fail
        change Calls _ _ _ (stBox wr ⟨8,rg,mo,lo,a,bb⟩ pa pb (.slice pt t.len ct) (.slice pe e.len ce)) _
        generalize stBox wr ⟨8,rg,mo,lo,a,bb⟩ pa pb (.slice pt t.len ct) (.slice pe e.len ce)=wa at HO0 ⊢
        refine (HA.out _ HO0.out.bld.low).mono ?_
        rintro e' w2 ⟨rfl,hb⟩
        have HO2:=Lib.hid (HO0.out.grown hb)
        clear hb
        go_wp2_with fail
        have hline:=HO2.out.line [[105,102,32,40],exO a,[41,32,123]] HD.out (by simp) (by rw [flat8 rg mo lo a bb,List.length_append];have:=HQL.out;have:=HLEN.out;have:=HSZ.out;have:=HH.out;omega)
        rw [flat8 rg mo lo a bb] at hline
        refine hline.mono ?_
        rintro e' w3 ⟨rfl,hO⟩
        have HO3:=Lib.hid hO
        have c6:=hO.box.cell 6
        have lb:=hO.box.lt
        clear hO hline
        go_wp2_with fail
        refine (HO3.out.more t _ HTT.out (by rw [List.length_append,line_len,List.length_append];have:=HQL.out;have:=HLEN.out;have:=HSZ.out;have:=HH.out;have:=HD.out;omega) (HIH.out t (by have:=HSZ.out;omega) HFT.out)).mono ?_
        rintro e' w4 ⟨rfl,hO⟩
        have HO4:=Lib.hid hO
        have c7:=hO.box.cell 7
        have lb:=hO.box.lt
        clear hO c6
        have HTL:=Lib.hid (Blk.text_len HFT.out (d+1))
        have HEL:=Lib.hid (Blk.text_len HFE.out (d+1))
        by_cases he:e.len=0
        · have i5:¬ (0:Int)<(e.len:Int):=by omega
          have HE0:=Lib.hid he
          clear he
          go_wp2_with fail
          have hline:=HO4.out.line [[125]] HD.out (by simp) (by simp only [List.length_append,line_len,List.flatten_cons,List.flatten_nil,List.length_cons,List.length_nil];have:=HQL.out;have:=HLEN.out;have:=HSZ.out;have:=HH.out;have:=HD.out;have:=HTL.out;omega)
          refine hline.mono ?_
          rintro e' w5 ⟨rfl,hO⟩
          have HO5:=Lib.hid hO
          clear hO hline
          go_wp2_with fail
          go_roundg r.len
          case measure=>simp [Blk.len]
          case rel=>exact HO5.out.close HD.out HE.out HNX.out (by rw [HOWN.out,if_pos HE0.out];simp [List.append_assoc])
        · have i5:(0:Int)<(e.len:Int):=by omega
          have HE0:=Lib.hid he
          clear he
          go_wp2_with fail
          have hline:=HO4.out.line [elseTxt] HD.out (by simp) (by simp only [List.length_append,line_len,List.flatten_cons,List.flatten_nil,List.length_cons,List.length_nil,elseTxt];have:=HQL.out;have:=HLEN.out;have:=HSZ.out;have:=HH.out;have:=HD.out;have:=HTL.out;omega)
          refine hline.mono ?_
          rintro e' w5 ⟨rfl,hO⟩
          have HO5:=Lib.hid hO
          have c7:=hO.box.cell 7
          have lb:=hO.box.lt
          clear hO hline
          go_wp2_with fail
          refine (HO5.out.more e _ HEE.out (by simp only [List.length_append,line_len,List.flatten_cons,List.flatten_nil,List.length_cons,List.length_nil,elseTxt];have:=HQL.out;have:=HLEN.out;have:=HSZ.out;have:=HH.out;have:=HD.out;have:=HTL.out;omega) (HIH.out e (by have:=HSZ.out;omega) HFE.out)).mono ?_
          rintro e' w6 ⟨rfl,hO⟩
          have HO6:=Lib.hid hO
          clear hO c7
          go_wp2_with fail
          have hline:=HO6.out.line [[125]] HD.out (by simp) (by simp only [List.length_append,line_len,List.flatten_cons,List.flatten_nil,List.length_cons,List.length_nil,elseTxt];have:=HQL.out;have:=HLEN.out;have:=HSZ.out;have:=HH.out;have:=HD.out;have:=HTL.out;have:=HEL.out;omega)
          refine hline.mono ?_
          rintro e' w7 ⟨rfl,hO⟩
          have HO7:=Lib.hid hO
          clear hO hline
          go_wp2_with fail
          go_roundg r.len
          case measure=>simp [Blk.len]
          case rel=>exact HO7.out.close HD.out HE.out HNX.out (by rw [HOWN.out,if_neg HE0.out];simp [List.append_assoc])
      by_cases k9:k=9
      · subst k9
        have HO0:=Lib.hid (On.made (w:=w) ⟨9,rg,mo,lo,a,bb⟩ pa pb (.slice pt t.len ct) (.slice pe e.len ce) HBx.out HMx.out HQ1.out HQ2.out)
        have HH:Hid ((headOf ⟨9,rg,mo,lo,a,bb⟩).length<=230000):=Lib.hid (head_len HOA.out HOB.out HR2.out)
        have HOWN:=Lib.hid (own_9 (m:=⟨9,rg,mo,lo,a,bb⟩) t e HD.out rfl)
        have HTL:=Lib.hid (Blk.text_len HFT.out (d+1))
        go_wp2_with fail
        change Calls _ _ _ (stBox wr ⟨9,rg,mo,lo,a,bb⟩ pa pb (.slice pt t.len ct) (.slice pe e.len ce)) _
        generalize stBox wr ⟨9,rg,mo,lo,a,bb⟩ pa pb (.slice pt t.len ct) (.slice pe e.len ce)=wa at HO0 ⊢
        refine (HA.out _ HO0.out.bld.low).mono ?_
        rintro e' w2 ⟨rfl,hb⟩
        have HO2:=Lib.hid (HO0.out.grown hb)
        clear hb
        go_wp2_with fail
        have hline:=HO2.out.line [[119,104,105,108,101,32,40],exO a,[41,32,123]] HD.out (by simp) (by rw [flat9 rg mo lo a bb,List.length_append];have:=HQL.out;have:=HLEN.out;have:=HSZ.out;have:=HH.out;omega)
        rw [flat9 rg mo lo a bb] at hline
        refine hline.mono ?_
        rintro e' w3 ⟨rfl,hO⟩
        have HO3:=Lib.hid hO
        have c6:=hO.box.cell 6
        have lb:=hO.box.lt
        clear hO hline
        go_wp2_with fail
        refine (HO3.out.more t _ HTT.out (by rw [List.length_append,line_len,List.length_append];have:=HQL.out;have:=HLEN.out;have:=HSZ.out;have:=HH.out;have:=HD.out;omega) (HIH.out t (by have:=HSZ.out;omega) HFT.out)).mono ?_
        rintro e' w4 ⟨rfl,hO⟩
        have HO4:=Lib.hid hO
        clear hO c6
        go_wp2_with fail
        have hline:=HO4.out.line [[125]] HD.out (by simp) (by simp only [List.length_append,line_len,List.flatten_cons,List.flatten_nil,List.length_cons,List.length_nil];have:=HQL.out;have:=HLEN.out;have:=HSZ.out;have:=HH.out;have:=HD.out;have:=HTL.out;omega)
        refine hline.mono ?_
        rintro e' w5 ⟨rfl,hO⟩
        have HO5:=Lib.hid hO
        clear hO hline
        go_wp2_with fail
        go_roundg r.len
        case measure=>simp [Blk.len]
        case rel=>exact HO5.out.close HD.out HE.out HNX.out (by rw [HOWN.out];simp [List.append_assoc])
      by_cases k7:k=7
      · subst k7
        have HO0:=Lib.hid (On.made (w:=w) ⟨7,rg,mo,lo,a,bb⟩ pa pb (.slice pt t.len ct) (.slice pe e.len ce) HBx.out HMx.out HQ1.out HQ2.out)
        have HH:Hid ((headOf ⟨7,rg,mo,lo,a,bb⟩).length<=230000):=Lib.hid (head_len HOA.out HOB.out HR2.out)
        have HOWN:=Lib.hid (own_flat (m:=⟨7,rg,mo,lo,a,bb⟩) t e HD.out (by simp))
        have HMO:=Lib.hid (fun W (h:Below w0.heap.size w0 W)=>mode_any mo hmo W (HX.out.2.below h))
        go_wp2_with fail
        change Calls _ _ _ (stBox wr ⟨7,rg,mo,lo,a,bb⟩ pa pb (.slice pt t.len ct) (.slice pe e.len ce)) _
        generalize stBox wr ⟨7,rg,mo,lo,a,bb⟩ pa pb (.slice pt t.len ct) (.slice pe e.len ce)=wa at HO0 ⊢
        refine (HMO.out _ HO0.out.bld.low).mono ?_
        rintro e' w2 ⟨rfl,hb⟩
        have HO2:=Lib.hid (HO0.out.grown hb)
        clear hb
        go_wp2_with fail
        refine (call_any [102,101,110,99,101] (by simp) [modeTxt mo] _ _ (words1 w2 (modeTxt mo)) (by simp) (by rw [joined1];have:=modeTxt_len mo;omega)).mono ?_
        rintro e' w3 ⟨rfl,hb⟩
        have HO3:=Lib.hid ((HO2.out.grown ((Below.refl _ _).alloc (Nat.le_refl _) _)).grown hb)
        clear hb
        go_wp2_with fail
        have hline:=HO3.out.line [callTxt [102,101,110,99,101] [modeTxt mo]] HD.out (by simp) (by rw [flat7 rg mo lo a bb,List.length_append];have:=HQL.out;have:=HLEN.out;have:=HSZ.out;have:=HH.out;omega)
        rw [flat7 rg mo lo a bb] at hline
        refine hline.mono ?_
        rintro e' w5 ⟨rfl,hO⟩
        have HO5:=Lib.hid hO
        clear hO hline
        go_wp2_with fail
        go_roundg r.len
        case measure=>simp [Blk.len]
        case rel=>exact HO5.out.close HD.out HE.out HNX.out (by rw [HOWN.out])
      by_cases k1:k=1
      · subst k1
        have HO0:=Lib.hid (On.made (w:=w) ⟨1,rg,mo,lo,a,bb⟩ pa pb (.slice pt t.len ct) (.slice pe e.len ce) HBx.out HMx.out HQ1.out HQ2.out)
        have HH:Hid ((headOf ⟨1,rg,mo,lo,a,bb⟩).length<=230000):=Lib.hid (head_len HOA.out HOB.out HR2.out)
        have HOWN:=Lib.hid (own_flat (m:=⟨1,rg,mo,lo,a,bb⟩) t e HD.out (by simp))
        go_wp2_with fail
        change Code.wp _ _ _ _ (stBox wr ⟨1,rg,mo,lo,a,bb⟩ pa pb (.slice pt t.len ct) (.slice pe e.len ce))
        generalize stBox wr ⟨1,rg,mo,lo,a,bb⟩ pa pb (.slice pt t.len ct) (.slice pe e.len ce)=wa at HO0 ⊢
        have HRG:=Lib.hid (fun W (h:Below w0.heap.size w0 W)=>register_st ⟨1,rg,mo,lo,a,bb⟩ HR2.out (.pointer pa) (.pointer pb) (.slice pt t.len ct) (.slice pe e.len ce) W ((HX.out.1.below h).2))
        have HLT:=Lib.hid (fun W (_:Below w0.heap.size w0 W)=>letter_any lo hlo W)
        have HMO:=Lib.hid (fun W (h:Below w0.heap.size w0 W)=>mode_any mo hmo W (HX.out.2.below h))
        generalize wr.heap.size=bx at HO0 ⊢
        refine wp_flow [71,72,73,74,75,76,77] [eqV (putV gb gm),eqV (stAgg ⟨1,rg,mo,lo,a,bb⟩ (.pointer pa) (.pointer pb) (.slice pt t.len ct) (.slice pe e.len ce)),eqV (.string (str (114 :: dec rg))),eqV (.pointer (some ⟨bx,4,none⟩)),eqV (.pointer pa),eqV (.string (str (exO a))),rowV 9 4 (words [114 :: dec rg,[32,61,32],exO a,[59]])] (by kernel_rfl) (by kernel_rfl) (by kernel_rfl) (by rfl) (by simp only [List.mem_cons,List.not_mem_nil,or_false,forall_eq_or_imp,forall_eq];refine ⟨?_,?_,?_,?_,?_,?_,?_⟩ <;> first | exact eqV_mono _ | exact rowV_mono _ _ _) ?_ ?_
        · intro i o hi ho A W hW hk he
          simp only [List.length_cons,List.length_nil,Nat.zero_add,Nat.reduceAdd] at hi
          obtain rfl | rfl | rfl | rfl | rfl | rfl | rfl:i=0 \/ i=1 \/ i=2 \/ i=3 \/ i=4 \/ i=5 \/ i=6:=by omega
          · injection ho with ho;subst ho
            have h6:A.tmps[6]?.getD undef=putV gb gm:=hk 6 (by rfl)
            unfold putV at h6
            go_simp
            exact ⟨rfl,Below.refl _ _⟩
          · injection ho with ho;subst ho
            have hO:=HO0.out.grown hW
            have h8:A.tmps[8]?.getD undef = .pointer (some ⟨bx,0,none⟩):=hk 8 (by rfl)
            have c0:=hO.box.cell 0
            have c1:=hO.box.cell 1
            have c2:=hO.box.cell 2
            have c3:=hO.box.cell 3
            have c4:=hO.box.cell 4
            have c5:=hO.box.cell 5
            have c6:=hO.box.cell 6
            have c7:=hO.box.cell 7
            go_simp
            exact ⟨rfl,Below.refl _ _⟩
          · injection ho with ho;subst ho
            have hO:=HO0.out.grown hW
            have hs:A.tmps[72]?.getD undef=stAgg ⟨1,rg,mo,lo,a,bb⟩ (.pointer pa) (.pointer pb) (.slice pt t.len ct) (.slice pe e.len ce):=he 1 (by kernel_rfl)
            unfold stAgg at hs
            go_simp
            refine Calls.mono (HRG.out W hO.bld.low) ?_
            rintro e' w' ⟨rfl,hb⟩
            exact ⟨_,rfl,rfl,hb⟩
          · injection ho with ho;subst ho
            have h8:A.tmps[8]?.getD undef = .pointer (some ⟨bx,0,none⟩):=hk 8 (by rfl)
            go_simp
            exact ⟨rfl,Below.refl _ _⟩
          · injection ho with ho;subst ho
            have hO:=HO0.out.grown hW
            have hs:A.tmps[74]?.getD undef = .pointer (some ⟨bx,4,none⟩):=he 3 (by kernel_rfl)
            have cc:=hO.box.cell 4
            go_simp
            exact ⟨rfl,Below.refl _ _⟩
          · injection ho with ho;subst ho
            have hO:=HO0.out.grown hW
            have hs:A.tmps[75]?.getD undef = .pointer pa:=he 4 (by kernel_rfl)
            go_simp
            refine Calls.mono (HA.out W hO.bld.low) ?_
            rintro e' w' ⟨rfl,hb⟩
            exact ⟨_,rfl,rfl,hb⟩
          · injection ho with ho;subst ho
            have hs2:A.tmps[73]?.getD undef = .string (str (114 :: dec rg)):=he 2 (by kernel_rfl)
            have hs5:A.tmps[76]?.getD undef = .string (str (exO a)):=he 5 (by kernel_rfl)
            go_simp
            exact ⟨⟨_,rfl,Sits.new _ _ _⟩,(Below.refl _ _).alloc (Nat.le_refl _) _⟩
        · intro xs W hW hV
          have e0:xs 0=putV gb gm:=hV 0 (by simp)
          obtain ⟨gw,ew,hsits⟩:rowV 9 4 (words [114 :: dec rg,[32,61,32],exO a,[59]]) (xs 6) W:=hV 6 (by simp)
          have HOW:=Lib.hid (HO0.out.grown hW)
          have HWS:=Lib.hid hsits
          unfold putV at e0
          simp only [List.length_cons,List.length_nil,Nat.zero_add,Nat.reduceAdd,List.drop_succ_cons,List.drop_zero,putL,Act.put,List.setIfInBounds_toArray,List.set_cons_zero,List.set_cons_succ,e0,ew]
          clear hV hsits hW e0 ew
          go_wp2_with fail
          have hline:=HOW.out.lineW [114 :: dec rg,[32,61,32],exO a,[59]] _ ⟨gw,rfl,HWS.out⟩ HD.out (by simp) (by rw [flat1 rg mo lo a bb,List.length_append];have:=HQL.out;have:=HLEN.out;have:=HSZ.out;have:=HH.out;omega)
          rw [flat1 rg mo lo a bb] at hline
          refine hline.mono ?_
          rintro e' w5 ⟨rfl,hO⟩
          have HO5:=Lib.hid hO
          clear hO hline
          go_wp2_with fail
          go_roundg r.len
          case measure=>simp [Blk.len]
          case rel=>exact HO5.out.close HD.out HE.out HNX.out (by rw [HOWN.out])
      by_cases k2:k=2
      · subst k2
        have HO0:=Lib.hid (On.made (w:=w) ⟨2,rg,mo,lo,a,bb⟩ pa pb (.slice pt t.len ct) (.slice pe e.len ce) HBx.out HMx.out HQ1.out HQ2.out)
        have HH:Hid ((headOf ⟨2,rg,mo,lo,a,bb⟩).length<=230000):=Lib.hid (head_len HOA.out HOB.out HR2.out)
        have HOWN:=Lib.hid (own_flat (m:=⟨2,rg,mo,lo,a,bb⟩) t e HD.out (by simp))
        have HJL:Hid ((joined [[lo.toUInt8],modeTxt mo]).length<=1000000):=Lib.hid (by rw [joined2];have:=modeTxt_len mo;have:(exO a).length<=114660:=exO_len HOA.out;have:(exO bb).length<=114660:=exO_len HOB.out;simp only [List.length_append,List.length_cons,List.length_nil];omega)
        go_wp2_with fail
        change Code.wp _ _ _ _ (stBox wr ⟨2,rg,mo,lo,a,bb⟩ pa pb (.slice pt t.len ct) (.slice pe e.len ce))
        generalize stBox wr ⟨2,rg,mo,lo,a,bb⟩ pa pb (.slice pt t.len ct) (.slice pe e.len ce)=wa at HO0 ⊢
        have HRG:=Lib.hid (fun W (h:Below w0.heap.size w0 W)=>register_st ⟨2,rg,mo,lo,a,bb⟩ HR2.out (.pointer pa) (.pointer pb) (.slice pt t.len ct) (.slice pe e.len ce) W ((HX.out.1.below h).2))
        have HLT:=Lib.hid (fun W (_:Below w0.heap.size w0 W)=>letter_any lo hlo W)
        have HMO:=Lib.hid (fun W (h:Below w0.heap.size w0 W)=>mode_any mo hmo W (HX.out.2.below h))
        generalize wr.heap.size=bx at HO0 ⊢
        refine wp_flow [81,82,83,84,85,86,87,88,89,90,91,92] [eqV (putV gb gm),eqV (stAgg ⟨2,rg,mo,lo,a,bb⟩ (.pointer pa) (.pointer pb) (.slice pt t.len ct) (.slice pe e.len ce)),eqV (.string (str (114 :: dec rg))),eqV (.pointer (some ⟨bx,3,none⟩)),eqV (.int .u8 (lo:Nat)),eqV (.string (str [lo.toUInt8])),eqV (.pointer (some ⟨bx,2,none⟩)),eqV (.int .u8 (mo:Nat)),eqV (.string (str (modeTxt mo))),rowV 9 2 (words [[lo.toUInt8],modeTxt mo]),eqV (.string (str (callTxt [108,111,97,100] [[lo.toUInt8],modeTxt mo]))),rowV 9 3 (words [114 :: dec rg,[32,61,32],callTxt [108,111,97,100] [[lo.toUInt8],modeTxt mo]])] (by kernel_rfl) (by kernel_rfl) (by kernel_rfl) (by rfl) (by simp only [List.mem_cons,List.not_mem_nil,or_false,forall_eq_or_imp,forall_eq];refine ⟨?_,?_,?_,?_,?_,?_,?_,?_,?_,?_,?_,?_⟩ <;> first | exact eqV_mono _ | exact rowV_mono _ _ _) ?_ ?_
        · intro i o hi ho A W hW hk he
          simp only [List.length_cons,List.length_nil,Nat.zero_add,Nat.reduceAdd] at hi
          obtain rfl | rfl | rfl | rfl | rfl | rfl | rfl | rfl | rfl | rfl | rfl | rfl:i=0 \/ i=1 \/ i=2 \/ i=3 \/ i=4 \/ i=5 \/ i=6 \/ i=7 \/ i=8 \/ i=9 \/ i=10 \/ i=11:=by omega
          · injection ho with ho;subst ho
            have h6:A.tmps[6]?.getD undef=putV gb gm:=hk 6 (by rfl)
            unfold putV at h6
            go_simp
            exact ⟨rfl,Below.refl _ _⟩
          · injection ho with ho;subst ho
            have hO:=HO0.out.grown hW
            have h8:A.tmps[8]?.getD undef = .pointer (some ⟨bx,0,none⟩):=hk 8 (by rfl)
            have c0:=hO.box.cell 0
            have c1:=hO.box.cell 1
            have c2:=hO.box.cell 2
            have c3:=hO.box.cell 3
            have c4:=hO.box.cell 4
            have c5:=hO.box.cell 5
            have c6:=hO.box.cell 6
            have c7:=hO.box.cell 7
            go_simp
            exact ⟨rfl,Below.refl _ _⟩
          · injection ho with ho;subst ho
            have hO:=HO0.out.grown hW
            have hs:A.tmps[82]?.getD undef=stAgg ⟨2,rg,mo,lo,a,bb⟩ (.pointer pa) (.pointer pb) (.slice pt t.len ct) (.slice pe e.len ce):=he 1 (by kernel_rfl)
            unfold stAgg at hs
            go_simp
            refine Calls.mono (HRG.out W hO.bld.low) ?_
            rintro e' w' ⟨rfl,hb⟩
            exact ⟨_,rfl,rfl,hb⟩
          · injection ho with ho;subst ho
            have h8:A.tmps[8]?.getD undef = .pointer (some ⟨bx,0,none⟩):=hk 8 (by rfl)
            go_simp
            exact ⟨rfl,Below.refl _ _⟩
          · injection ho with ho;subst ho
            have hO:=HO0.out.grown hW
            have hs:A.tmps[84]?.getD undef = .pointer (some ⟨bx,3,none⟩):=he 3 (by kernel_rfl)
            have cc:=hO.box.cell 3
            go_simp
            exact ⟨rfl,Below.refl _ _⟩
          · injection ho with ho;subst ho
            have hO:=HO0.out.grown hW
            have hs:A.tmps[85]?.getD undef = .int .u8 (lo:Nat):=he 4 (by kernel_rfl)
            go_simp
            refine Calls.mono (HLT.out W hO.bld.low) ?_
            rintro e' w' ⟨rfl,hb⟩
            exact ⟨_,rfl,rfl,hb⟩
          · injection ho with ho;subst ho
            have h8:A.tmps[8]?.getD undef = .pointer (some ⟨bx,0,none⟩):=hk 8 (by rfl)
            go_simp
            exact ⟨rfl,Below.refl _ _⟩
          · injection ho with ho;subst ho
            have hO:=HO0.out.grown hW
            have hs:A.tmps[87]?.getD undef = .pointer (some ⟨bx,2,none⟩):=he 6 (by kernel_rfl)
            have cc:=hO.box.cell 2
            go_simp
            exact ⟨rfl,Below.refl _ _⟩
          · injection ho with ho;subst ho
            have hO:=HO0.out.grown hW
            have hs:A.tmps[88]?.getD undef = .int .u8 (mo:Nat):=he 7 (by kernel_rfl)
            go_simp
            refine Calls.mono (HMO.out W hO.bld.low) ?_
            rintro e' w' ⟨rfl,hb⟩
            exact ⟨_,rfl,rfl,hb⟩
          · injection ho with ho;subst ho
            have hs5:A.tmps[86]?.getD undef = .string (str ([lo.toUInt8])):=he 5 (by kernel_rfl)
            have hs8:A.tmps[89]?.getD undef = .string (str (modeTxt mo)):=he 8 (by kernel_rfl)
            go_simp
            exact ⟨⟨_,rfl,Sits.new _ _ _⟩,(Below.refl _ _).alloc (Nat.le_refl _) _⟩
          · injection ho with ho;subst ho
            obtain ⟨gw,hs,hsits⟩:rowV 9 2 (words [[lo.toUInt8],modeTxt mo]) (A.tmps[90]?.getD undef) W:=he 9 (by kernel_rfl)
            go_simp
            refine Calls.mono (call_any [108,111,97,100] (by simp) [[lo.toUInt8],modeTxt mo] _ W ⟨gw,rfl,hsits⟩ (by simp) HJL.out) ?_
            rintro e' w' ⟨rfl,hb⟩
            exact ⟨_,rfl,rfl,hb⟩
          · injection ho with ho;subst ho
            have hs2:A.tmps[83]?.getD undef = .string (str (114 :: dec rg)):=he 2 (by kernel_rfl)
            have hs10:A.tmps[91]?.getD undef = .string (str (callTxt [108,111,97,100] [[lo.toUInt8],modeTxt mo])):=he 10 (by kernel_rfl)
            go_simp
            exact ⟨⟨_,rfl,Sits.new _ _ _⟩,(Below.refl _ _).alloc (Nat.le_refl _) _⟩
        · intro xs W hW hV
          have e0:xs 0=putV gb gm:=hV 0 (by simp)
          obtain ⟨gw,ew,hsits⟩:rowV 9 3 (words [114 :: dec rg,[32,61,32],callTxt [108,111,97,100] [[lo.toUInt8],modeTxt mo]]) (xs 11) W:=hV 11 (by simp)
          have HOW:=Lib.hid (HO0.out.grown hW)
          have HWS:=Lib.hid hsits
          unfold putV at e0
          simp only [List.length_cons,List.length_nil,Nat.zero_add,Nat.reduceAdd,List.drop_succ_cons,List.drop_zero,putL,Act.put,List.setIfInBounds_toArray,List.set_cons_zero,List.set_cons_succ,e0,ew]
          clear hV hsits hW e0 ew
          go_wp2_with fail
          have hline:=HOW.out.lineW [114 :: dec rg,[32,61,32],callTxt [108,111,97,100] [[lo.toUInt8],modeTxt mo]] _ ⟨gw,rfl,HWS.out⟩ HD.out (by simp) (by rw [flat2 rg mo lo a bb,List.length_append];have:=HQL.out;have:=HLEN.out;have:=HSZ.out;have:=HH.out;omega)
          rw [flat2 rg mo lo a bb] at hline
          refine hline.mono ?_
          rintro e' w5 ⟨rfl,hO⟩
          have HO5:=Lib.hid hO
          clear hO hline
          go_wp2_with fail
          go_roundg r.len
          case measure=>simp [Blk.len]
          case rel=>exact HO5.out.close HD.out HE.out HNX.out (by rw [HOWN.out])
      by_cases k3:k=3
      · subst k3
        have HO0:=Lib.hid (On.made (w:=w) ⟨3,rg,mo,lo,a,bb⟩ pa pb (.slice pt t.len ct) (.slice pe e.len ce) HBx.out HMx.out HQ1.out HQ2.out)
        have HH:Hid ((headOf ⟨3,rg,mo,lo,a,bb⟩).length<=230000):=Lib.hid (head_len HOA.out HOB.out HR2.out)
        have HOWN:=Lib.hid (own_flat (m:=⟨3,rg,mo,lo,a,bb⟩) t e HD.out (by simp))
        have HJL:Hid ((joined [[lo.toUInt8],exO a,modeTxt mo]).length<=1000000):=Lib.hid (by rw [joined3];have:=modeTxt_len mo;have:(exO a).length<=114660:=exO_len HOA.out;have:(exO bb).length<=114660:=exO_len HOB.out;simp only [List.length_append,List.length_cons,List.length_nil];omega)
        go_wp2_with fail
        change Code.wp _ _ _ _ (stBox wr ⟨3,rg,mo,lo,a,bb⟩ pa pb (.slice pt t.len ct) (.slice pe e.len ce))
        generalize stBox wr ⟨3,rg,mo,lo,a,bb⟩ pa pb (.slice pt t.len ct) (.slice pe e.len ce)=wa at HO0 ⊢
        have HRG:=Lib.hid (fun W (h:Below w0.heap.size w0 W)=>register_st ⟨3,rg,mo,lo,a,bb⟩ HR2.out (.pointer pa) (.pointer pb) (.slice pt t.len ct) (.slice pe e.len ce) W ((HX.out.1.below h).2))
        have HLT:=Lib.hid (fun W (_:Below w0.heap.size w0 W)=>letter_any lo hlo W)
        have HMO:=Lib.hid (fun W (h:Below w0.heap.size w0 W)=>mode_any mo hmo W (HX.out.2.below h))
        generalize wr.heap.size=bx at HO0 ⊢
        refine wp_flow [96,97,98,99,100,101,102,103,104,105,106,107,108] [eqV (putV gb gm),eqV (.pointer (some ⟨bx,3,none⟩)),eqV (.int .u8 (lo:Nat)),eqV (.string (str [lo.toUInt8])),eqV (.pointer (some ⟨bx,4,none⟩)),eqV (.pointer pa),eqV (.string (str (exO a))),eqV (.pointer (some ⟨bx,2,none⟩)),eqV (.int .u8 (mo:Nat)),eqV (.string (str (modeTxt mo))),rowV 9 3 (words [[lo.toUInt8],exO a,modeTxt mo]),eqV (.string (str (callTxt [115,116,111,114,101] [[lo.toUInt8],exO a,modeTxt mo]))),rowV 9 1 (words [callTxt [115,116,111,114,101] [[lo.toUInt8],exO a,modeTxt mo]])] (by kernel_rfl) (by kernel_rfl) (by kernel_rfl) (by rfl) (by simp only [List.mem_cons,List.not_mem_nil,or_false,forall_eq_or_imp,forall_eq];refine ⟨?_,?_,?_,?_,?_,?_,?_,?_,?_,?_,?_,?_,?_⟩ <;> first | exact eqV_mono _ | exact rowV_mono _ _ _) ?_ ?_
        · intro i o hi ho A W hW hk he
          simp only [List.length_cons,List.length_nil,Nat.zero_add,Nat.reduceAdd] at hi
          obtain rfl | rfl | rfl | rfl | rfl | rfl | rfl | rfl | rfl | rfl | rfl | rfl | rfl:i=0 \/ i=1 \/ i=2 \/ i=3 \/ i=4 \/ i=5 \/ i=6 \/ i=7 \/ i=8 \/ i=9 \/ i=10 \/ i=11 \/ i=12:=by omega
          · injection ho with ho;subst ho
            have h6:A.tmps[6]?.getD undef=putV gb gm:=hk 6 (by rfl)
            unfold putV at h6
            go_simp
            exact ⟨rfl,Below.refl _ _⟩
          · injection ho with ho;subst ho
            have h8:A.tmps[8]?.getD undef = .pointer (some ⟨bx,0,none⟩):=hk 8 (by rfl)
            go_simp
            exact ⟨rfl,Below.refl _ _⟩
          · injection ho with ho;subst ho
            have hO:=HO0.out.grown hW
            have hs:A.tmps[97]?.getD undef = .pointer (some ⟨bx,3,none⟩):=he 1 (by kernel_rfl)
            have cc:=hO.box.cell 3
            go_simp
            exact ⟨rfl,Below.refl _ _⟩
          · injection ho with ho;subst ho
            have hO:=HO0.out.grown hW
            have hs:A.tmps[98]?.getD undef = .int .u8 (lo:Nat):=he 2 (by kernel_rfl)
            go_simp
            refine Calls.mono (HLT.out W hO.bld.low) ?_
            rintro e' w' ⟨rfl,hb⟩
            exact ⟨_,rfl,rfl,hb⟩
          · injection ho with ho;subst ho
            have h8:A.tmps[8]?.getD undef = .pointer (some ⟨bx,0,none⟩):=hk 8 (by rfl)
            go_simp
            exact ⟨rfl,Below.refl _ _⟩
          · injection ho with ho;subst ho
            have hO:=HO0.out.grown hW
            have hs:A.tmps[100]?.getD undef = .pointer (some ⟨bx,4,none⟩):=he 4 (by kernel_rfl)
            have cc:=hO.box.cell 4
            go_simp
            exact ⟨rfl,Below.refl _ _⟩
          · injection ho with ho;subst ho
            have hO:=HO0.out.grown hW
            have hs:A.tmps[101]?.getD undef = .pointer pa:=he 5 (by kernel_rfl)
            go_simp
            refine Calls.mono (HA.out W hO.bld.low) ?_
            rintro e' w' ⟨rfl,hb⟩
            exact ⟨_,rfl,rfl,hb⟩
          · injection ho with ho;subst ho
            have h8:A.tmps[8]?.getD undef = .pointer (some ⟨bx,0,none⟩):=hk 8 (by rfl)
            go_simp
            exact ⟨rfl,Below.refl _ _⟩
          · injection ho with ho;subst ho
            have hO:=HO0.out.grown hW
            have hs:A.tmps[103]?.getD undef = .pointer (some ⟨bx,2,none⟩):=he 7 (by kernel_rfl)
            have cc:=hO.box.cell 2
            go_simp
            exact ⟨rfl,Below.refl _ _⟩
          · injection ho with ho;subst ho
            have hO:=HO0.out.grown hW
            have hs:A.tmps[104]?.getD undef = .int .u8 (mo:Nat):=he 8 (by kernel_rfl)
            go_simp
            refine Calls.mono (HMO.out W hO.bld.low) ?_
            rintro e' w' ⟨rfl,hb⟩
            exact ⟨_,rfl,rfl,hb⟩
          · injection ho with ho;subst ho
            have hs3:A.tmps[99]?.getD undef = .string (str ([lo.toUInt8])):=he 3 (by kernel_rfl)
            have hs6:A.tmps[102]?.getD undef = .string (str (exO a)):=he 6 (by kernel_rfl)
            have hs9:A.tmps[105]?.getD undef = .string (str (modeTxt mo)):=he 9 (by kernel_rfl)
            go_simp
            exact ⟨⟨_,rfl,Sits.new _ _ _⟩,(Below.refl _ _).alloc (Nat.le_refl _) _⟩
          · injection ho with ho;subst ho
            obtain ⟨gw,hs,hsits⟩:rowV 9 3 (words [[lo.toUInt8],exO a,modeTxt mo]) (A.tmps[106]?.getD undef) W:=he 10 (by kernel_rfl)
            go_simp
            refine Calls.mono (call_any [115,116,111,114,101] (by simp) [[lo.toUInt8],exO a,modeTxt mo] _ W ⟨gw,rfl,hsits⟩ (by simp) HJL.out) ?_
            rintro e' w' ⟨rfl,hb⟩
            exact ⟨_,rfl,rfl,hb⟩
          · injection ho with ho;subst ho
            have hs11:A.tmps[107]?.getD undef = .string (str (callTxt [115,116,111,114,101] [[lo.toUInt8],exO a,modeTxt mo])):=he 11 (by kernel_rfl)
            go_simp
            exact ⟨⟨_,rfl,Sits.new _ _ _⟩,(Below.refl _ _).alloc (Nat.le_refl _) _⟩
        · intro xs W hW hV
          have e0:xs 0=putV gb gm:=hV 0 (by simp)
          obtain ⟨gw,ew,hsits⟩:rowV 9 1 (words [callTxt [115,116,111,114,101] [[lo.toUInt8],exO a,modeTxt mo]]) (xs 12) W:=hV 12 (by simp)
          have HOW:=Lib.hid (HO0.out.grown hW)
          have HWS:=Lib.hid hsits
          unfold putV at e0
          simp only [List.length_cons,List.length_nil,Nat.zero_add,Nat.reduceAdd,List.drop_succ_cons,List.drop_zero,putL,Act.put,List.setIfInBounds_toArray,List.set_cons_zero,List.set_cons_succ,e0,ew]
          clear hV hsits hW e0 ew
          go_wp2_with fail
          have hline:=HOW.out.lineW [callTxt [115,116,111,114,101] [[lo.toUInt8],exO a,modeTxt mo]] _ ⟨gw,rfl,HWS.out⟩ HD.out (by simp) (by rw [flat3 rg mo lo a bb,List.length_append];have:=HQL.out;have:=HLEN.out;have:=HSZ.out;have:=HH.out;omega)
          rw [flat3 rg mo lo a bb] at hline
          refine hline.mono ?_
          rintro e' w5 ⟨rfl,hO⟩
          have HO5:=Lib.hid hO
          clear hO hline
          go_wp2_with fail
          go_roundg r.len
          case measure=>simp [Blk.len]
          case rel=>exact HO5.out.close HD.out HE.out HNX.out (by rw [HOWN.out])
      by_cases k4:k=4
      · subst k4
        have HO0:=Lib.hid (On.made (w:=w) ⟨4,rg,mo,lo,a,bb⟩ pa pb (.slice pt t.len ct) (.slice pe e.len ce) HBx.out HMx.out HQ1.out HQ2.out)
        have HH:Hid ((headOf ⟨4,rg,mo,lo,a,bb⟩).length<=230000):=Lib.hid (head_len HOA.out HOB.out HR2.out)
        have HOWN:=Lib.hid (own_flat (m:=⟨4,rg,mo,lo,a,bb⟩) t e HD.out (by simp))
        have HJL:Hid ((joined [[lo.toUInt8],exO a,modeTxt mo]).length<=1000000):=Lib.hid (by rw [joined3];have:=modeTxt_len mo;have:(exO a).length<=114660:=exO_len HOA.out;have:(exO bb).length<=114660:=exO_len HOB.out;simp only [List.length_append,List.length_cons,List.length_nil];omega)
        go_wp2_with fail
        change Code.wp _ _ _ _ (stBox wr ⟨4,rg,mo,lo,a,bb⟩ pa pb (.slice pt t.len ct) (.slice pe e.len ce))
        generalize stBox wr ⟨4,rg,mo,lo,a,bb⟩ pa pb (.slice pt t.len ct) (.slice pe e.len ce)=wa at HO0 ⊢
        have HRG:=Lib.hid (fun W (h:Below w0.heap.size w0 W)=>register_st ⟨4,rg,mo,lo,a,bb⟩ HR2.out (.pointer pa) (.pointer pb) (.slice pt t.len ct) (.slice pe e.len ce) W ((HX.out.1.below h).2))
        have HLT:=Lib.hid (fun W (_:Below w0.heap.size w0 W)=>letter_any lo hlo W)
        have HMO:=Lib.hid (fun W (h:Below w0.heap.size w0 W)=>mode_any mo hmo W (HX.out.2.below h))
        generalize wr.heap.size=bx at HO0 ⊢
        refine wp_flow [112,113,114,115,116,117,118,119,120,121,122,123,124,125,126] [eqV (putV gb gm),eqV (stAgg ⟨4,rg,mo,lo,a,bb⟩ (.pointer pa) (.pointer pb) (.slice pt t.len ct) (.slice pe e.len ce)),eqV (.string (str (114 :: dec rg))),eqV (.pointer (some ⟨bx,3,none⟩)),eqV (.int .u8 (lo:Nat)),eqV (.string (str [lo.toUInt8])),eqV (.pointer (some ⟨bx,4,none⟩)),eqV (.pointer pa),eqV (.string (str (exO a))),eqV (.pointer (some ⟨bx,2,none⟩)),eqV (.int .u8 (mo:Nat)),eqV (.string (str (modeTxt mo))),rowV 9 3 (words [[lo.toUInt8],exO a,modeTxt mo]),eqV (.string (str (callTxt [115,119,97,112] [[lo.toUInt8],exO a,modeTxt mo]))),rowV 9 3 (words [114 :: dec rg,[32,61,32],callTxt [115,119,97,112] [[lo.toUInt8],exO a,modeTxt mo]])] (by kernel_rfl) (by kernel_rfl) (by kernel_rfl) (by rfl) (by simp only [List.mem_cons,List.not_mem_nil,or_false,forall_eq_or_imp,forall_eq];refine ⟨?_,?_,?_,?_,?_,?_,?_,?_,?_,?_,?_,?_,?_,?_,?_⟩ <;> first | exact eqV_mono _ | exact rowV_mono _ _ _) ?_ ?_
        · intro i o hi ho A W hW hk he
          simp only [List.length_cons,List.length_nil,Nat.zero_add,Nat.reduceAdd] at hi
          obtain rfl | rfl | rfl | rfl | rfl | rfl | rfl | rfl | rfl | rfl | rfl | rfl | rfl | rfl | rfl:i=0 \/ i=1 \/ i=2 \/ i=3 \/ i=4 \/ i=5 \/ i=6 \/ i=7 \/ i=8 \/ i=9 \/ i=10 \/ i=11 \/ i=12 \/ i=13 \/ i=14:=by omega
          · injection ho with ho;subst ho
            have h6:A.tmps[6]?.getD undef=putV gb gm:=hk 6 (by rfl)
            unfold putV at h6
            go_simp
            exact ⟨rfl,Below.refl _ _⟩
          · injection ho with ho;subst ho
            have hO:=HO0.out.grown hW
            have h8:A.tmps[8]?.getD undef = .pointer (some ⟨bx,0,none⟩):=hk 8 (by rfl)
            have c0:=hO.box.cell 0
            have c1:=hO.box.cell 1
            have c2:=hO.box.cell 2
            have c3:=hO.box.cell 3
            have c4:=hO.box.cell 4
            have c5:=hO.box.cell 5
            have c6:=hO.box.cell 6
            have c7:=hO.box.cell 7
            go_simp
            exact ⟨rfl,Below.refl _ _⟩
          · injection ho with ho;subst ho
            have hO:=HO0.out.grown hW
            have hs:A.tmps[113]?.getD undef=stAgg ⟨4,rg,mo,lo,a,bb⟩ (.pointer pa) (.pointer pb) (.slice pt t.len ct) (.slice pe e.len ce):=he 1 (by kernel_rfl)
            unfold stAgg at hs
            go_simp
            refine Calls.mono (HRG.out W hO.bld.low) ?_
            rintro e' w' ⟨rfl,hb⟩
            exact ⟨_,rfl,rfl,hb⟩
          · injection ho with ho;subst ho
            have h8:A.tmps[8]?.getD undef = .pointer (some ⟨bx,0,none⟩):=hk 8 (by rfl)
            go_simp
            exact ⟨rfl,Below.refl _ _⟩
          · injection ho with ho;subst ho
            have hO:=HO0.out.grown hW
            have hs:A.tmps[115]?.getD undef = .pointer (some ⟨bx,3,none⟩):=he 3 (by kernel_rfl)
            have cc:=hO.box.cell 3
            go_simp
            exact ⟨rfl,Below.refl _ _⟩
          · injection ho with ho;subst ho
            have hO:=HO0.out.grown hW
            have hs:A.tmps[116]?.getD undef = .int .u8 (lo:Nat):=he 4 (by kernel_rfl)
            go_simp
            refine Calls.mono (HLT.out W hO.bld.low) ?_
            rintro e' w' ⟨rfl,hb⟩
            exact ⟨_,rfl,rfl,hb⟩
          · injection ho with ho;subst ho
            have h8:A.tmps[8]?.getD undef = .pointer (some ⟨bx,0,none⟩):=hk 8 (by rfl)
            go_simp
            exact ⟨rfl,Below.refl _ _⟩
          · injection ho with ho;subst ho
            have hO:=HO0.out.grown hW
            have hs:A.tmps[118]?.getD undef = .pointer (some ⟨bx,4,none⟩):=he 6 (by kernel_rfl)
            have cc:=hO.box.cell 4
            go_simp
            exact ⟨rfl,Below.refl _ _⟩
          · injection ho with ho;subst ho
            have hO:=HO0.out.grown hW
            have hs:A.tmps[119]?.getD undef = .pointer pa:=he 7 (by kernel_rfl)
            go_simp
            refine Calls.mono (HA.out W hO.bld.low) ?_
            rintro e' w' ⟨rfl,hb⟩
            exact ⟨_,rfl,rfl,hb⟩
          · injection ho with ho;subst ho
            have h8:A.tmps[8]?.getD undef = .pointer (some ⟨bx,0,none⟩):=hk 8 (by rfl)
            go_simp
            exact ⟨rfl,Below.refl _ _⟩
          · injection ho with ho;subst ho
            have hO:=HO0.out.grown hW
            have hs:A.tmps[121]?.getD undef = .pointer (some ⟨bx,2,none⟩):=he 9 (by kernel_rfl)
            have cc:=hO.box.cell 2
            go_simp
            exact ⟨rfl,Below.refl _ _⟩
          · injection ho with ho;subst ho
            have hO:=HO0.out.grown hW
            have hs:A.tmps[122]?.getD undef = .int .u8 (mo:Nat):=he 10 (by kernel_rfl)
            go_simp
            refine Calls.mono (HMO.out W hO.bld.low) ?_
            rintro e' w' ⟨rfl,hb⟩
            exact ⟨_,rfl,rfl,hb⟩
          · injection ho with ho;subst ho
            have hs5:A.tmps[117]?.getD undef = .string (str ([lo.toUInt8])):=he 5 (by kernel_rfl)
            have hs8:A.tmps[120]?.getD undef = .string (str (exO a)):=he 8 (by kernel_rfl)
            have hs11:A.tmps[123]?.getD undef = .string (str (modeTxt mo)):=he 11 (by kernel_rfl)
            go_simp
            exact ⟨⟨_,rfl,Sits.new _ _ _⟩,(Below.refl _ _).alloc (Nat.le_refl _) _⟩
          · injection ho with ho;subst ho
            obtain ⟨gw,hs,hsits⟩:rowV 9 3 (words [[lo.toUInt8],exO a,modeTxt mo]) (A.tmps[124]?.getD undef) W:=he 12 (by kernel_rfl)
            go_simp
            refine Calls.mono (call_any [115,119,97,112] (by simp) [[lo.toUInt8],exO a,modeTxt mo] _ W ⟨gw,rfl,hsits⟩ (by simp) HJL.out) ?_
            rintro e' w' ⟨rfl,hb⟩
            exact ⟨_,rfl,rfl,hb⟩
          · injection ho with ho;subst ho
            have hs2:A.tmps[114]?.getD undef = .string (str (114 :: dec rg)):=he 2 (by kernel_rfl)
            have hs13:A.tmps[125]?.getD undef = .string (str (callTxt [115,119,97,112] [[lo.toUInt8],exO a,modeTxt mo])):=he 13 (by kernel_rfl)
            go_simp
            exact ⟨⟨_,rfl,Sits.new _ _ _⟩,(Below.refl _ _).alloc (Nat.le_refl _) _⟩
        · intro xs W hW hV
          have e0:xs 0=putV gb gm:=hV 0 (by simp)
          obtain ⟨gw,ew,hsits⟩:rowV 9 3 (words [114 :: dec rg,[32,61,32],callTxt [115,119,97,112] [[lo.toUInt8],exO a,modeTxt mo]]) (xs 14) W:=hV 14 (by simp)
          have HOW:=Lib.hid (HO0.out.grown hW)
          have HWS:=Lib.hid hsits
          unfold putV at e0
          simp only [List.length_cons,List.length_nil,Nat.zero_add,Nat.reduceAdd,List.drop_succ_cons,List.drop_zero,putL,Act.put,List.setIfInBounds_toArray,List.set_cons_zero,List.set_cons_succ,e0,ew]
          clear hV hsits hW e0 ew
          go_wp2_with fail
          have hline:=HOW.out.lineW [114 :: dec rg,[32,61,32],callTxt [115,119,97,112] [[lo.toUInt8],exO a,modeTxt mo]] _ ⟨gw,rfl,HWS.out⟩ HD.out (by simp) (by rw [flat4 rg mo lo a bb,List.length_append];have:=HQL.out;have:=HLEN.out;have:=HSZ.out;have:=HH.out;omega)
          rw [flat4 rg mo lo a bb] at hline
          refine hline.mono ?_
          rintro e' w5 ⟨rfl,hO⟩
          have HO5:=Lib.hid hO
          clear hO hline
          go_wp2_with fail
          go_roundg r.len
          case measure=>simp [Blk.len]
          case rel=>exact HO5.out.close HD.out HE.out HNX.out (by rw [HOWN.out])
      by_cases k5:k=5
      · subst k5
        have HO0:=Lib.hid (On.made (w:=w) ⟨5,rg,mo,lo,a,bb⟩ pa pb (.slice pt t.len ct) (.slice pe e.len ce) HBx.out HMx.out HQ1.out HQ2.out)
        have HH:Hid ((headOf ⟨5,rg,mo,lo,a,bb⟩).length<=230000):=Lib.hid (head_len HOA.out HOB.out HR2.out)
        have HOWN:=Lib.hid (own_flat (m:=⟨5,rg,mo,lo,a,bb⟩) t e HD.out (by simp))
        have HJL:Hid ((joined [[lo.toUInt8],exO a,modeTxt mo]).length<=1000000):=Lib.hid (by rw [joined3];have:=modeTxt_len mo;have:(exO a).length<=114660:=exO_len HOA.out;have:(exO bb).length<=114660:=exO_len HOB.out;simp only [List.length_append,List.length_cons,List.length_nil];omega)
        go_wp2_with fail
        change Code.wp _ _ _ _ (stBox wr ⟨5,rg,mo,lo,a,bb⟩ pa pb (.slice pt t.len ct) (.slice pe e.len ce))
        generalize stBox wr ⟨5,rg,mo,lo,a,bb⟩ pa pb (.slice pt t.len ct) (.slice pe e.len ce)=wa at HO0 ⊢
        have HRG:=Lib.hid (fun W (h:Below w0.heap.size w0 W)=>register_st ⟨5,rg,mo,lo,a,bb⟩ HR2.out (.pointer pa) (.pointer pb) (.slice pt t.len ct) (.slice pe e.len ce) W ((HX.out.1.below h).2))
        have HLT:=Lib.hid (fun W (_:Below w0.heap.size w0 W)=>letter_any lo hlo W)
        have HMO:=Lib.hid (fun W (h:Below w0.heap.size w0 W)=>mode_any mo hmo W (HX.out.2.below h))
        generalize wr.heap.size=bx at HO0 ⊢
        refine wp_flow [130,131,132,133,134,135,136,137,138,139,140,141,142,143,144] [eqV (putV gb gm),eqV (stAgg ⟨5,rg,mo,lo,a,bb⟩ (.pointer pa) (.pointer pb) (.slice pt t.len ct) (.slice pe e.len ce)),eqV (.string (str (114 :: dec rg))),eqV (.pointer (some ⟨bx,3,none⟩)),eqV (.int .u8 (lo:Nat)),eqV (.string (str [lo.toUInt8])),eqV (.pointer (some ⟨bx,4,none⟩)),eqV (.pointer pa),eqV (.string (str (exO a))),eqV (.pointer (some ⟨bx,2,none⟩)),eqV (.int .u8 (mo:Nat)),eqV (.string (str (modeTxt mo))),rowV 9 3 (words [[lo.toUInt8],exO a,modeTxt mo]),eqV (.string (str (callTxt [97,100,100] [[lo.toUInt8],exO a,modeTxt mo]))),rowV 9 3 (words [114 :: dec rg,[32,61,32],callTxt [97,100,100] [[lo.toUInt8],exO a,modeTxt mo]])] (by kernel_rfl) (by kernel_rfl) (by kernel_rfl) (by rfl) (by simp only [List.mem_cons,List.not_mem_nil,or_false,forall_eq_or_imp,forall_eq];refine ⟨?_,?_,?_,?_,?_,?_,?_,?_,?_,?_,?_,?_,?_,?_,?_⟩ <;> first | exact eqV_mono _ | exact rowV_mono _ _ _) ?_ ?_
        · intro i o hi ho A W hW hk he
          simp only [List.length_cons,List.length_nil,Nat.zero_add,Nat.reduceAdd] at hi
          obtain rfl | rfl | rfl | rfl | rfl | rfl | rfl | rfl | rfl | rfl | rfl | rfl | rfl | rfl | rfl:i=0 \/ i=1 \/ i=2 \/ i=3 \/ i=4 \/ i=5 \/ i=6 \/ i=7 \/ i=8 \/ i=9 \/ i=10 \/ i=11 \/ i=12 \/ i=13 \/ i=14:=by omega
          · injection ho with ho;subst ho
            have h6:A.tmps[6]?.getD undef=putV gb gm:=hk 6 (by rfl)
            unfold putV at h6
            go_simp
            exact ⟨rfl,Below.refl _ _⟩
          · injection ho with ho;subst ho
            have hO:=HO0.out.grown hW
            have h8:A.tmps[8]?.getD undef = .pointer (some ⟨bx,0,none⟩):=hk 8 (by rfl)
            have c0:=hO.box.cell 0
            have c1:=hO.box.cell 1
            have c2:=hO.box.cell 2
            have c3:=hO.box.cell 3
            have c4:=hO.box.cell 4
            have c5:=hO.box.cell 5
            have c6:=hO.box.cell 6
            have c7:=hO.box.cell 7
            go_simp
            exact ⟨rfl,Below.refl _ _⟩
          · injection ho with ho;subst ho
            have hO:=HO0.out.grown hW
            have hs:A.tmps[131]?.getD undef=stAgg ⟨5,rg,mo,lo,a,bb⟩ (.pointer pa) (.pointer pb) (.slice pt t.len ct) (.slice pe e.len ce):=he 1 (by kernel_rfl)
            unfold stAgg at hs
            go_simp
            refine Calls.mono (HRG.out W hO.bld.low) ?_
            rintro e' w' ⟨rfl,hb⟩
            exact ⟨_,rfl,rfl,hb⟩
          · injection ho with ho;subst ho
            have h8:A.tmps[8]?.getD undef = .pointer (some ⟨bx,0,none⟩):=hk 8 (by rfl)
            go_simp
            exact ⟨rfl,Below.refl _ _⟩
          · injection ho with ho;subst ho
            have hO:=HO0.out.grown hW
            have hs:A.tmps[133]?.getD undef = .pointer (some ⟨bx,3,none⟩):=he 3 (by kernel_rfl)
            have cc:=hO.box.cell 3
            go_simp
            exact ⟨rfl,Below.refl _ _⟩
          · injection ho with ho;subst ho
            have hO:=HO0.out.grown hW
            have hs:A.tmps[134]?.getD undef = .int .u8 (lo:Nat):=he 4 (by kernel_rfl)
            go_simp
            refine Calls.mono (HLT.out W hO.bld.low) ?_
            rintro e' w' ⟨rfl,hb⟩
            exact ⟨_,rfl,rfl,hb⟩
          · injection ho with ho;subst ho
            have h8:A.tmps[8]?.getD undef = .pointer (some ⟨bx,0,none⟩):=hk 8 (by rfl)
            go_simp
            exact ⟨rfl,Below.refl _ _⟩
          · injection ho with ho;subst ho
            have hO:=HO0.out.grown hW
            have hs:A.tmps[136]?.getD undef = .pointer (some ⟨bx,4,none⟩):=he 6 (by kernel_rfl)
            have cc:=hO.box.cell 4
            go_simp
            exact ⟨rfl,Below.refl _ _⟩
          · injection ho with ho;subst ho
            have hO:=HO0.out.grown hW
            have hs:A.tmps[137]?.getD undef = .pointer pa:=he 7 (by kernel_rfl)
            go_simp
            refine Calls.mono (HA.out W hO.bld.low) ?_
            rintro e' w' ⟨rfl,hb⟩
            exact ⟨_,rfl,rfl,hb⟩
          · injection ho with ho;subst ho
            have h8:A.tmps[8]?.getD undef = .pointer (some ⟨bx,0,none⟩):=hk 8 (by rfl)
            go_simp
            exact ⟨rfl,Below.refl _ _⟩
          · injection ho with ho;subst ho
            have hO:=HO0.out.grown hW
            have hs:A.tmps[139]?.getD undef = .pointer (some ⟨bx,2,none⟩):=he 9 (by kernel_rfl)
            have cc:=hO.box.cell 2
            go_simp
            exact ⟨rfl,Below.refl _ _⟩
          · injection ho with ho;subst ho
            have hO:=HO0.out.grown hW
            have hs:A.tmps[140]?.getD undef = .int .u8 (mo:Nat):=he 10 (by kernel_rfl)
            go_simp
            refine Calls.mono (HMO.out W hO.bld.low) ?_
            rintro e' w' ⟨rfl,hb⟩
            exact ⟨_,rfl,rfl,hb⟩
          · injection ho with ho;subst ho
            have hs5:A.tmps[135]?.getD undef = .string (str ([lo.toUInt8])):=he 5 (by kernel_rfl)
            have hs8:A.tmps[138]?.getD undef = .string (str (exO a)):=he 8 (by kernel_rfl)
            have hs11:A.tmps[141]?.getD undef = .string (str (modeTxt mo)):=he 11 (by kernel_rfl)
            go_simp
            exact ⟨⟨_,rfl,Sits.new _ _ _⟩,(Below.refl _ _).alloc (Nat.le_refl _) _⟩
          · injection ho with ho;subst ho
            obtain ⟨gw,hs,hsits⟩:rowV 9 3 (words [[lo.toUInt8],exO a,modeTxt mo]) (A.tmps[142]?.getD undef) W:=he 12 (by kernel_rfl)
            go_simp
            refine Calls.mono (call_any [97,100,100] (by simp) [[lo.toUInt8],exO a,modeTxt mo] _ W ⟨gw,rfl,hsits⟩ (by simp) HJL.out) ?_
            rintro e' w' ⟨rfl,hb⟩
            exact ⟨_,rfl,rfl,hb⟩
          · injection ho with ho;subst ho
            have hs2:A.tmps[132]?.getD undef = .string (str (114 :: dec rg)):=he 2 (by kernel_rfl)
            have hs13:A.tmps[143]?.getD undef = .string (str (callTxt [97,100,100] [[lo.toUInt8],exO a,modeTxt mo])):=he 13 (by kernel_rfl)
            go_simp
            exact ⟨⟨_,rfl,Sits.new _ _ _⟩,(Below.refl _ _).alloc (Nat.le_refl _) _⟩
        · intro xs W hW hV
          have e0:xs 0=putV gb gm:=hV 0 (by simp)
          obtain ⟨gw,ew,hsits⟩:rowV 9 3 (words [114 :: dec rg,[32,61,32],callTxt [97,100,100] [[lo.toUInt8],exO a,modeTxt mo]]) (xs 14) W:=hV 14 (by simp)
          have HOW:=Lib.hid (HO0.out.grown hW)
          have HWS:=Lib.hid hsits
          unfold putV at e0
          simp only [List.length_cons,List.length_nil,Nat.zero_add,Nat.reduceAdd,List.drop_succ_cons,List.drop_zero,putL,Act.put,List.setIfInBounds_toArray,List.set_cons_zero,List.set_cons_succ,e0,ew]
          clear hV hsits hW e0 ew
          go_wp2_with fail
          have hline:=HOW.out.lineW [114 :: dec rg,[32,61,32],callTxt [97,100,100] [[lo.toUInt8],exO a,modeTxt mo]] _ ⟨gw,rfl,HWS.out⟩ HD.out (by simp) (by rw [flat5 rg mo lo a bb,List.length_append];have:=HQL.out;have:=HLEN.out;have:=HSZ.out;have:=HH.out;omega)
          rw [flat5 rg mo lo a bb] at hline
          refine hline.mono ?_
          rintro e' w5 ⟨rfl,hO⟩
          have HO5:=Lib.hid hO
          clear hO hline
          go_wp2_with fail
          go_roundg r.len
          case measure=>simp [Blk.len]
          case rel=>exact HO5.out.close HD.out HE.out HNX.out (by rw [HOWN.out])
      by_cases k6:k=6
      · subst k6
        have HO0:=Lib.hid (On.made (w:=w) ⟨6,rg,mo,lo,a,bb⟩ pa pb (.slice pt t.len ct) (.slice pe e.len ce) HBx.out HMx.out HQ1.out HQ2.out)
        have HH:Hid ((headOf ⟨6,rg,mo,lo,a,bb⟩).length<=230000):=Lib.hid (head_len HOA.out HOB.out HR2.out)
        have HOWN:=Lib.hid (own_flat (m:=⟨6,rg,mo,lo,a,bb⟩) t e HD.out (by simp))
        have HJL:Hid ((joined [[lo.toUInt8],exO a,exO bb,modeTxt mo]).length<=1000000):=Lib.hid (by rw [joined4];have:=modeTxt_len mo;have:(exO a).length<=114660:=exO_len HOA.out;have:(exO bb).length<=114660:=exO_len HOB.out;simp only [List.length_append,List.length_cons,List.length_nil];omega)
        go_wp2_with fail
        change Code.wp _ _ _ _ (stBox wr ⟨6,rg,mo,lo,a,bb⟩ pa pb (.slice pt t.len ct) (.slice pe e.len ce))
        generalize stBox wr ⟨6,rg,mo,lo,a,bb⟩ pa pb (.slice pt t.len ct) (.slice pe e.len ce)=wa at HO0 ⊢
        have HRG:=Lib.hid (fun W (h:Below w0.heap.size w0 W)=>register_st ⟨6,rg,mo,lo,a,bb⟩ HR2.out (.pointer pa) (.pointer pb) (.slice pt t.len ct) (.slice pe e.len ce) W ((HX.out.1.below h).2))
        have HLT:=Lib.hid (fun W (_:Below w0.heap.size w0 W)=>letter_any lo hlo W)
        have HMO:=Lib.hid (fun W (h:Below w0.heap.size w0 W)=>mode_any mo hmo W (HX.out.2.below h))
        generalize wr.heap.size=bx at HO0 ⊢
        refine wp_flow [148,149,150,151,152,153,154,155,156,157,158,159,160,161,162,163,164,165] [eqV (putV gb gm),eqV (stAgg ⟨6,rg,mo,lo,a,bb⟩ (.pointer pa) (.pointer pb) (.slice pt t.len ct) (.slice pe e.len ce)),eqV (.string (str (114 :: dec rg))),eqV (.pointer (some ⟨bx,3,none⟩)),eqV (.int .u8 (lo:Nat)),eqV (.string (str [lo.toUInt8])),eqV (.pointer (some ⟨bx,4,none⟩)),eqV (.pointer pa),eqV (.string (str (exO a))),eqV (.pointer (some ⟨bx,5,none⟩)),eqV (.pointer pb),eqV (.string (str (exO bb))),eqV (.pointer (some ⟨bx,2,none⟩)),eqV (.int .u8 (mo:Nat)),eqV (.string (str (modeTxt mo))),rowV 9 4 (words [[lo.toUInt8],exO a,exO bb,modeTxt mo]),eqV (.string (str (callTxt [99,97,115] [[lo.toUInt8],exO a,exO bb,modeTxt mo]))),rowV 9 3 (words [114 :: dec rg,[32,61,32],callTxt [99,97,115] [[lo.toUInt8],exO a,exO bb,modeTxt mo]])] (by kernel_rfl) (by kernel_rfl) (by kernel_rfl) (by rfl) (by simp only [List.mem_cons,List.not_mem_nil,or_false,forall_eq_or_imp,forall_eq];refine ⟨?_,?_,?_,?_,?_,?_,?_,?_,?_,?_,?_,?_,?_,?_,?_,?_,?_,?_⟩ <;> first | exact eqV_mono _ | exact rowV_mono _ _ _) ?_ ?_
        · intro i o hi ho A W hW hk he
          simp only [List.length_cons,List.length_nil,Nat.zero_add,Nat.reduceAdd] at hi
          obtain rfl | rfl | rfl | rfl | rfl | rfl | rfl | rfl | rfl | rfl | rfl | rfl | rfl | rfl | rfl | rfl | rfl | rfl:i=0 \/ i=1 \/ i=2 \/ i=3 \/ i=4 \/ i=5 \/ i=6 \/ i=7 \/ i=8 \/ i=9 \/ i=10 \/ i=11 \/ i=12 \/ i=13 \/ i=14 \/ i=15 \/ i=16 \/ i=17:=by omega
          · injection ho with ho;subst ho
            have h6:A.tmps[6]?.getD undef=putV gb gm:=hk 6 (by rfl)
            unfold putV at h6
            go_simp
            exact ⟨rfl,Below.refl _ _⟩
          · injection ho with ho;subst ho
            have hO:=HO0.out.grown hW
            have h8:A.tmps[8]?.getD undef = .pointer (some ⟨bx,0,none⟩):=hk 8 (by rfl)
            have c0:=hO.box.cell 0
            have c1:=hO.box.cell 1
            have c2:=hO.box.cell 2
            have c3:=hO.box.cell 3
            have c4:=hO.box.cell 4
            have c5:=hO.box.cell 5
            have c6:=hO.box.cell 6
            have c7:=hO.box.cell 7
            go_simp
            exact ⟨rfl,Below.refl _ _⟩
          · injection ho with ho;subst ho
            have hO:=HO0.out.grown hW
            have hs:A.tmps[149]?.getD undef=stAgg ⟨6,rg,mo,lo,a,bb⟩ (.pointer pa) (.pointer pb) (.slice pt t.len ct) (.slice pe e.len ce):=he 1 (by kernel_rfl)
            unfold stAgg at hs
            go_simp
            refine Calls.mono (HRG.out W hO.bld.low) ?_
            rintro e' w' ⟨rfl,hb⟩
            exact ⟨_,rfl,rfl,hb⟩
          · injection ho with ho;subst ho
            have h8:A.tmps[8]?.getD undef = .pointer (some ⟨bx,0,none⟩):=hk 8 (by rfl)
            go_simp
            exact ⟨rfl,Below.refl _ _⟩
          · injection ho with ho;subst ho
            have hO:=HO0.out.grown hW
            have hs:A.tmps[151]?.getD undef = .pointer (some ⟨bx,3,none⟩):=he 3 (by kernel_rfl)
            have cc:=hO.box.cell 3
            go_simp
            exact ⟨rfl,Below.refl _ _⟩
          · injection ho with ho;subst ho
            have hO:=HO0.out.grown hW
            have hs:A.tmps[152]?.getD undef = .int .u8 (lo:Nat):=he 4 (by kernel_rfl)
            go_simp
            refine Calls.mono (HLT.out W hO.bld.low) ?_
            rintro e' w' ⟨rfl,hb⟩
            exact ⟨_,rfl,rfl,hb⟩
          · injection ho with ho;subst ho
            have h8:A.tmps[8]?.getD undef = .pointer (some ⟨bx,0,none⟩):=hk 8 (by rfl)
            go_simp
            exact ⟨rfl,Below.refl _ _⟩
          · injection ho with ho;subst ho
            have hO:=HO0.out.grown hW
            have hs:A.tmps[154]?.getD undef = .pointer (some ⟨bx,4,none⟩):=he 6 (by kernel_rfl)
            have cc:=hO.box.cell 4
            go_simp
            exact ⟨rfl,Below.refl _ _⟩
          · injection ho with ho;subst ho
            have hO:=HO0.out.grown hW
            have hs:A.tmps[155]?.getD undef = .pointer pa:=he 7 (by kernel_rfl)
            go_simp
            refine Calls.mono (HA.out W hO.bld.low) ?_
            rintro e' w' ⟨rfl,hb⟩
            exact ⟨_,rfl,rfl,hb⟩
          · injection ho with ho;subst ho
            have h8:A.tmps[8]?.getD undef = .pointer (some ⟨bx,0,none⟩):=hk 8 (by rfl)
            go_simp
            exact ⟨rfl,Below.refl _ _⟩
          · injection ho with ho;subst ho
            have hO:=HO0.out.grown hW
            have hs:A.tmps[157]?.getD undef = .pointer (some ⟨bx,5,none⟩):=he 9 (by kernel_rfl)
            have cc:=hO.box.cell 5
            go_simp
            exact ⟨rfl,Below.refl _ _⟩
          · injection ho with ho;subst ho
            have hO:=HO0.out.grown hW
            have hs:A.tmps[158]?.getD undef = .pointer pb:=he 10 (by kernel_rfl)
            go_simp
            refine Calls.mono (HBB.out W hO.bld.low) ?_
            rintro e' w' ⟨rfl,hb⟩
            exact ⟨_,rfl,rfl,hb⟩
          · injection ho with ho;subst ho
            have h8:A.tmps[8]?.getD undef = .pointer (some ⟨bx,0,none⟩):=hk 8 (by rfl)
            go_simp
            exact ⟨rfl,Below.refl _ _⟩
          · injection ho with ho;subst ho
            have hO:=HO0.out.grown hW
            have hs:A.tmps[160]?.getD undef = .pointer (some ⟨bx,2,none⟩):=he 12 (by kernel_rfl)
            have cc:=hO.box.cell 2
            go_simp
            exact ⟨rfl,Below.refl _ _⟩
          · injection ho with ho;subst ho
            have hO:=HO0.out.grown hW
            have hs:A.tmps[161]?.getD undef = .int .u8 (mo:Nat):=he 13 (by kernel_rfl)
            go_simp
            refine Calls.mono (HMO.out W hO.bld.low) ?_
            rintro e' w' ⟨rfl,hb⟩
            exact ⟨_,rfl,rfl,hb⟩
          · injection ho with ho;subst ho
            have hs5:A.tmps[153]?.getD undef = .string (str ([lo.toUInt8])):=he 5 (by kernel_rfl)
            have hs8:A.tmps[156]?.getD undef = .string (str (exO a)):=he 8 (by kernel_rfl)
            have hs11:A.tmps[159]?.getD undef = .string (str (exO bb)):=he 11 (by kernel_rfl)
            have hs14:A.tmps[162]?.getD undef = .string (str (modeTxt mo)):=he 14 (by kernel_rfl)
            go_simp
            exact ⟨⟨_,rfl,Sits.new _ _ _⟩,(Below.refl _ _).alloc (Nat.le_refl _) _⟩
          · injection ho with ho;subst ho
            obtain ⟨gw,hs,hsits⟩:rowV 9 4 (words [[lo.toUInt8],exO a,exO bb,modeTxt mo]) (A.tmps[163]?.getD undef) W:=he 15 (by kernel_rfl)
            go_simp
            refine Calls.mono (call_any [99,97,115] (by simp) [[lo.toUInt8],exO a,exO bb,modeTxt mo] _ W ⟨gw,rfl,hsits⟩ (by simp) HJL.out) ?_
            rintro e' w' ⟨rfl,hb⟩
            exact ⟨_,rfl,rfl,hb⟩
          · injection ho with ho;subst ho
            have hs2:A.tmps[150]?.getD undef = .string (str (114 :: dec rg)):=he 2 (by kernel_rfl)
            have hs16:A.tmps[164]?.getD undef = .string (str (callTxt [99,97,115] [[lo.toUInt8],exO a,exO bb,modeTxt mo])):=he 16 (by kernel_rfl)
            go_simp
            exact ⟨⟨_,rfl,Sits.new _ _ _⟩,(Below.refl _ _).alloc (Nat.le_refl _) _⟩
        · intro xs W hW hV
          have e0:xs 0=putV gb gm:=hV 0 (by simp)
          obtain ⟨gw,ew,hsits⟩:rowV 9 3 (words [114 :: dec rg,[32,61,32],callTxt [99,97,115] [[lo.toUInt8],exO a,exO bb,modeTxt mo]]) (xs 17) W:=hV 17 (by simp)
          have HOW:=Lib.hid (HO0.out.grown hW)
          have HWS:=Lib.hid hsits
          unfold putV at e0
          simp only [List.length_cons,List.length_nil,Nat.zero_add,Nat.reduceAdd,List.drop_succ_cons,List.drop_zero,putL,Act.put,List.setIfInBounds_toArray,List.set_cons_zero,List.set_cons_succ,e0,ew]
          clear hV hsits hW e0 ew
          go_wp2_with fail
          have hline:=HOW.out.lineW [114 :: dec rg,[32,61,32],callTxt [99,97,115] [[lo.toUInt8],exO a,exO bb,modeTxt mo]] _ ⟨gw,rfl,HWS.out⟩ HD.out (by simp) (by rw [flat6 rg mo lo a bb,List.length_append];have:=HQL.out;have:=HLEN.out;have:=HSZ.out;have:=HH.out;omega)
          rw [flat6 rg mo lo a bb] at hline
          refine hline.mono ?_
          rintro e' w5 ⟨rfl,hO⟩
          have HO5:=Lib.hid hO
          clear hO hline
          go_wp2_with fail
          go_roundg r.len
          case measure=>simp [Blk.len]
          case rel=>exact HO5.out.close HD.out HE.out HNX.out (by rw [HOWN.out])
      by_cases kx:1<=k/\k<=9
      · exact absurd kx (by omega)
      · have HO0:=Lib.hid (On.made (w:=w) ⟨k,rg,mo,lo,a,bb⟩ pa pb (.slice pt t.len ct) (.slice pe e.len ce) HBx.out HMx.out HQ1.out HQ2.out)
        have HOWN:=Lib.hid (own_none (m:=⟨k,rg,mo,lo,a,bb⟩) (d:=d) t e (by simp only;omega))
        have e1:((k:Int) == 1)=false:=beq_eq_false_iff_ne.2 (by omega)
        have e2:((k:Int) == 2)=false:=beq_eq_false_iff_ne.2 (by omega)
        have e3:((k:Int) == 3)=false:=beq_eq_false_iff_ne.2 (by omega)
        have e4:((k:Int) == 4)=false:=beq_eq_false_iff_ne.2 (by omega)
        have e5:((k:Int) == 5)=false:=beq_eq_false_iff_ne.2 (by omega)
        have e6:((k:Int) == 6)=false:=beq_eq_false_iff_ne.2 (by omega)
        have e7:((k:Int) == 7)=false:=beq_eq_false_iff_ne.2 (by omega)
        have e8:((k:Int) == 8)=false:=beq_eq_false_iff_ne.2 (by omega)
        have e9:((k:Int) == 9)=false:=beq_eq_false_iff_ne.2 (by omega)
        clear k7 k8 k9 k1 k2 k3 k4 k5 k6 kx
        go_wp2_with fail
        go_roundg r.len
        case measure=>simp [Blk.len]
        case rel=>exact HO0.out.close HD.out HE.out HNX.out (by rw [HOWN.out,List.append_nil])
set_option maxRecDepth 100000 in
theorem put_deep (w0:World) (bB:Nat) (d:Nat) (hd:8<d) (hd2:d<=100) (l:List UInt8) (p:Option Addr) (n cap:Nat) (w:World) (hB:Bld w0 bB l w) :
    Calls Tryz.prog 65 #[.pointer (some ⟨bB,0,none⟩),.slice p n cap,.int .i64 (d:Nat)] w (PutDone w0 bB l w):=by
  have i1:(8:Int)<(d:Int):=by omega
  have HB:=Lib.hid hB
  clear hd hd2 hB
  go_enter Tryz.func65,Tryz.ntmps65
  go_wp2_with fail
  go_end0
  exact ⟨rfl,HB.out,Moved.refl _ _⟩
theorem put_any (w0:World) (hX:All w0) (bB:Nat):∀ (n:Nat) (b:Blk),b.size<n->b.fine->∀ (d:Nat),d<=9->∀ (l:List UInt8) (v:Value) (w:World),Stand any_ w0 b v->Bld w0 bB l w->l.length+240000 * b.size<=100000000000000 ->
    Calls Tryz.prog 65 #[.pointer (some ⟨bB,0,none⟩),v,.int .i64 (d:Nat)] w (PutDone w0 bB (l ++ b.text d) w):=by
  intro n
  induction n with
  | zero=>intro b h;omega
  | succ n ih =>
    intro b hb hf d hd l v w hS hB hlen
    by_cases h9:8<d
    · obtain ⟨p,cap,rfl,_⟩:=hS.len
      rw [Blk.text_deep b h9,List.append_nil]
      exact put_deep w0 bB d h9 (by omega) l p b.len cap w hB
    · exact put_loop w0 hX bB b hf d (by omega) l v w hS hB hlen fun c hc hcf l v w hS hB hlen=>ih c (by omega) hcf (d+1) (by omega) l v w hS hB hlen
end Go.Proofs.YtbkdappgmcebaaaGreatDoor.Prog
end
