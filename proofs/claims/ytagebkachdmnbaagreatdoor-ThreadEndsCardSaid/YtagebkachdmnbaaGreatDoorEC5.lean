/- Part 26 of the proof: what is used of the texts PrsG, PrsH, PrsI, PrsJ. -/
import Derived.Test.YtagebkachdmnbaaGreatDoorEC4
import Derived.Test.YtagebkachdmnbaaGreatDoorEA9
section
namespace Go.Proofs.YtagebkachdmnbaaGreatDoor.Prs
open Go.RowKit Go.Proofs.YtagebkachdmnbaaGreatDoor.Mem Go.Proofs.YtagebkachdmnbaaGreatDoor.Expr
open Go.Proofs.YtagebkachdmnbaaGreatDoor.Lex (Tok)
def iniCells (x n:Nat):Array Value:=#[.int .u8 (x:Nat),.int .u64 (n:Nat)]
def initV:Nat × Nat->Ending->World->Prop:=fun a e _=>e = .returned (.agg (iniCells a.1 a.2))
theorem iniSize:(Tryz.prog.info? 126).map (·.size)=some 2:=by kernel_rfl
theorem ini_one (x n:Nat):(iniCells x n).all (·.oneCell')=true:=by
  rw [Array.all_eq_true']
  intro u hu
  simp only [iniCells,List.mem_toArray,List.mem_cons,List.not_mem_nil,or_false] at hu
  rcases hu with rfl | rfl <;> rfl
section
variable {w : World} {gR gp cap : Nat} {ts : List Lex.Tok} {k : Nat}
theorem Rd.setRow {w w0:World} {k0 k g0:Nat} {cs:Array Value} (h:Rd w gR gp cap ts k) (h0:Rd w0 gR gp cap ts k0) (hK:Keeps (fun x=>x=gR) w0 (w.setRow g0 cs)) (hne:g0≠gR) (hgp:gp≠g0):Rd (w.setRow g0 cs) gR gp cap ts k :=
  ⟨h.box.keep (row_keeps w g0 cs) hne.symm,fun j i u hj hu=>by rw [World.cell?_of_block (w:=w) (setRow_other _ g0 gp _ hgp)];exact h.row j i u hj hu,h.lt,h.cap,h.few,h.far,h.good,h0.baseK hK⟩
set_option maxRecDepth 100000 in
set_option maxHeartbeats 1000000 in
theorem start_any (h:Rd w gR gp cap ts k):Calls Tryz.prog 176 #[.pointer (some ⟨gR,0,none⟩)] w (Done gR gp cap ts initV (initF ts k) w):=by
  have hfn:=field_num
  have hb:Below w.heap.size w (w.alloc (.cells (iniCells 0 0) 126)):=(Below.refl _ _).alloc (Nat.le_refl _) _
  have HZ:=Lib.hid (Sits.new w 126 (iniCells 0 0))
  have HNE:=Lib.hid (show w.heap.size≠gR by have:=h.box.lt;omega)
  have HRW:=Lib.hid h
  have HB:=Lib.hid (Keeps.of_below hb:Keeps (fun x=>x=gR) w _)
  have HL:=Lib.hid (location_any (h.below hb))
  have HSG:=Lib.hid (fun k2 s (hs:s ≠ []) W (hr:Rd W gR gp cap ts k2)=>sign_any hr s hs)
  have HO:=Lib.hid (fun k2 W (hr:Rd W gR gp cap ts k2)=>of_any hr 1)
  have HM:=Lib.hid (fun j h1 h2=>h.good.more j h1 h2)
  clear h hb
  go_enter Tryz.func176,Tryz.ntmps176
  go_wp2_with fail
  change Calls _ _ _ (w.alloc (.cells (iniCells 0 0) 126)) _
  generalize w.alloc (.cells (iniCells 0 0) 126)=W0 at HZ HB HL ⊢
  generalize hg0:w.heap.size=g0 at HZ HNE ⊢
  have HG0:=Lib.hid hg0
  have HGP:=Lib.hid (show gp≠g0 by have:gp<w.heap.size:=World.block_lt_of_cell? _ _ (HRW.out.at HRW.out.lt).1;omega)
  clear hg0
  refine HL.out.mono ?_
  rintro e w1 ⟨hk,hp⟩
  have HK1:=Lib.hid (HB.out.trans hk)
  have HZ1:=Lib.hid (HZ.out.keep hk HNE.out)
  clear hk
  cases hl:locF ts k with
  | bad j er =>
    rw [hl] at hp
    simp only at hp
    subst hp
    have HE:Hid (initF ts k = .bad j er):=Lib.hid (by unfold initF;rw [hl];rfl)
    clear hl
    go_wp2_with fail
    rw [HE.out]
    exact ⟨rfl,HK1.out,rfl⟩
  | ok x k1 =>
  rw [hl] at hp
  obtain ⟨hv,hr⟩:=hp
  simp only [byteV] at hv
  subst hv
  have HS:=Lib.hid (HSG.out k1 [61] (by simp) w1 hr)
  have HE:=Lib.hid (show initF ts k=(signF ts [61] k1).bind fun _ k=>(if kindAt ts k=1 then Out.ok (numAt ts k) (k+1) else Out.bad k 3).bind fun n k=>(signF ts [59] k).map fun _=>(x,n) by unfold initF;rw [hl];rfl)
  clear hl hr
  go_wp2_with fail
  refine HS.out.mono ?_
  rintro e w2 ⟨hk,hp⟩
  have HK2:=Lib.hid (HK1.out.trans hk)
  have HZ2:=Lib.hid (HZ1.out.keep hk HNE.out)
  clear hk
  cases hl:signF ts [61] k1 with
  | bad j er =>
    rw [hl] at hp
    simp only at hp
    subst hp
    have HE2:Hid (initF ts k = .bad j er):=Lib.hid (by rw [HE.out,hl];rfl)
    clear hl
    go_wp2_with fail
    rw [HE2.out]
    exact ⟨rfl,HK2.out,rfl⟩
  | ok u k2 =>
  rw [hl] at hp
  obtain ⟨hv,hr⟩:=hp
  simp only [unitV] at hv
  subst hv
  have HO2:=Lib.hid (HO.out k2 w2 hr)
  have HR2:=Lib.hid hr
  have HE2:=Lib.hid (show initF ts k=(if kindAt ts k2=1 then Out.ok (numAt ts k2) (k2+1) else Out.bad k2 3).bind fun n k=>(signF ts [59] k).map fun _=>(x,n) by rw [HE.out,hl];rfl)
  clear hl hr HE
  go_wp2_with fail
  refine HO2.out.mono ?_
  rintro e w3 ⟨hk,hp⟩
  have HK3:=Lib.hid (HK2.out.trans hk)
  have HZ3:=Lib.hid (HZ2.out.keep hk HNE.out)
  clear hk
  rcases hp with ⟨hq,rfl,hr⟩ | ⟨hq,rfl⟩
  · have hr3:=hr (HM.out k2 HR2.out.lt (by omega))
    have HS3:=Lib.hid (HSG.out (k2+1) [59] (by simp) w3 hr3)
    have HE3:=Lib.hid (show initF ts k=(signF ts [59] (k2+1)).map fun _=>(x,numAt ts k2) by rw [HE2.out,if_pos hq];rfl)
    clear hq hr hr3 HE2
    unfold pc
    go_wp2_with fail
    refine HS3.out.mono ?_
    rintro e w4 ⟨hk,hp⟩
    have HK4:=Lib.hid (HK3.out.trans hk)
    have HZ4:=Lib.hid (HZ3.out.keep hk HNE.out)
    clear hk
    cases hl:signF ts [59] (k2+1) with
    | bad j er =>
      rw [hl] at hp
      simp only at hp
      subst hp
      have HE4:Hid (initF ts k = .bad j er):=Lib.hid (by rw [HE3.out,hl];rfl)
      clear hl
      go_wp2_with fail
      rw [HE4.out]
      exact ⟨rfl,HK4.out,rfl⟩
    | ok u k4 =>
      rw [hl] at hp
      obtain ⟨hv,hr⟩:=hp
      simp only [unitV] at hv
      subst hv
      have HE4:Hid (initF ts k = .ok (x,numAt ts k2) k4):=Lib.hid (by rw [HE3.out,hl];rfl)
      have HR4:=Lib.hid hr
      clear hl hr
      go_wp2_with (refine wpList_store_row rfl 126 _ _ rfl g0 (iniCells x (tk ts k2).num) rfl rfl 126 (iniCells 0 0) HZ4.out iniSize rfl (ini_one _ _) ?_)
      have hk5:=row_keeps w4 g0 (iniCells x (tk ts k2).num)
      have hs:Sits (w4.setRow g0 (iniCells x (tk ts k2).num)) g0 126 (iniCells x (tk ts k2).num):=setRow_heap _ _ _ _ _ _ HZ4.out
      have hK:Keeps (fun x=>x=gR) w (w4.setRow g0 (iniCells x (tk ts k2).num)):=((HK4.out.wider (fun x _ h => .inl h)).trans (hk5.wider (fun x _ h => .inr h)):Keeps (fun x=>x=gR \/ x=g0) w _).wider fun x hx h=>h.elim id (fun h=>by have:=HG0.out;omega)
      have hR:=HR4.out.setRow HRW.out hK HNE.out HGP.out
      generalize w4.setRow g0 (iniCells x (tk ts k2).num)=W5 at hs hK hR ⊢
      have HK5:=Lib.hid hK
      have HR5:=Lib.hid hR
      have z0:W5.cell? ⟨g0,0,none⟩=some (.int .u8 (x:Nat)):=hs.cell 0
      have z1:W5.cell? ⟨g0,1,none⟩=some (.int .u64 (tk ts k2).num):=hs.cell 1
      clear hs hK hR hk5
      exact bodyPost_ret (v:=.agg (iniCells x (tk ts k2).num)) (by simp [results,Tryz.results176,go_sem,z0,z1,iniCells,Act.put]) rfl ⟨HK5.out,by rw [HE4.out];exact ⟨rfl,HR5.out⟩⟩
  · have HE3:Hid (initF ts k = .bad k2 3):=Lib.hid (by rw [HE2.out,if_neg hq];rfl)
    clear hq
    go_wp2_with fail
    rw [HE3.out]
    exact ⟨rfl,HK3.out,rfl⟩
def boolV:Bool->Ending->World->Prop:=fun a e _=>e = .returned (.bool a)
def forallF (ts:List Lex.Tok) (k:Nat):Out Bool:=if kindAt ts k=2 then if ltrs ts k=wExists \/ ltrs ts k=wForall then .ok (decide (ltrs ts k=wForall)) (k+1) else .bad k 7 else .bad k 3
theorem askF_of (l:List (Nat × Nat)) (q:List Prog.Blk) (k:Nat):askF ts l q k=(forallF ts k).bind fun b k1=>(exprF ts true k1).bind fun a k'=>(signF ts [59] k').bind fun _ k'=>if kindAt ts k' = 0 then .ok ⟨l,q,b,some a⟩ (k' + 1) else .bad k' 3:=by
  unfold askF forallF
  split
  · split <;> rfl
  · rfl
theorem str_lit (a:List UInt8):(str a).toList=a:=by simp [str]
set_option maxRecDepth 100000 in
set_option maxHeartbeats 1000000 in
theorem forAll_any (h:Rd w gR gp cap ts k):Calls Tryz.prog 181 #[.pointer (some ⟨gR,0,none⟩)] w (Done gR gp cap ts boolV (forallF ts k) w):=by
  have HO:=Lib.hid (of_any h 2)
  have HP:=Lib.hid (fun W=>throw_any (tk ts k) 7 W)
  have HM:=Lib.hid (fun e=>h.good.more k h.lt e)
  have E1:((str (ltrs ts k)).toList == [101,120,105,115,116,115])=decide (ltrs ts k=wExists):=by
    have:=str_eq (ltrs ts k) wExists
    rw [str_lit wExists] at this;exact this
  have E2:((str (ltrs ts k)).toList == [102,111,114,97,108,108])=decide (ltrs ts k=wForall):=by
    have:=str_eq (ltrs ts k) wForall
    rw [str_lit wForall] at this;exact this
  have hne:wExists≠wForall:=by decide
  clear h
  go_enter Tryz.func181,Tryz.ntmps181
  go_wp2_with fail
  refine HO.out.mono ?_
  rintro e w1 ⟨hk,hp⟩
  have HK:=Lib.hid hk
  rcases hp with ⟨hq,rfl,hr⟩ | ⟨hq,rfl⟩
  · have HR1:=Lib.hid (hr (HM.out (by rw [hq];decide)))
    have HQ:=Lib.hid hq
    have hz:=Sits.new w1 278 zeroPc
    have HZ:=Lib.hid hz
    have hkk:=row_keeps (w1.alloc (.cells zeroPc 278)) w1.heap.size (pc (tk ts k))
    have hs:Sits ((w1.alloc (.cells zeroPc 278)).setRow w1.heap.size (pc (tk ts k))) w1.heap.size 278 (pc (tk ts k)):=setRow_heap _ _ _ _ _ _ hz
    have hlow:Below w1.heap.size w1 ((w1.alloc (.cells zeroPc 278)).setRow w1.heap.size (pc (tk ts k))):=behind ((Below.refl _ _).alloc (Nat.le_refl _) _) hkk (by simp) (fun x e=>by rw [e];exact Nat.le_refl _)
    clear hk hq hr hz hkk
    go_upto_region 2 with (refine wpList_store_row rfl 278 _ _ rfl w1.heap.size (pc (tk ts k)) rfl rfl 278 zeroPc HZ.out pcSize rfl (pc_one _) ?_)
    change Code.wp _ _ _ _ ((w1.alloc (.cells zeroPc 278)).setRow w1.heap.size (pc (tk ts k)))
    generalize (w1.alloc (.cells zeroPc 278)).setRow w1.heap.size (pc (tk ts k))=W2 at hs hlow ⊢
    generalize w1.heap.size=g1 at hs ⊢
    have HLW:=Lib.hid hlow
    obtain ⟨s0,s1,s2,s3,s4⟩:=pc_at hs
    have l1:=hs.lt
    clear hlow hs HZ
    unfold pc at HP
    change W2.cell? ⟨g1,1,none⟩=some (.string (str (ltrs ts k))) at s1
    change Hid (∀ W,Calls _ _ #[.agg #[_,.string (str (ltrs ts k)),_,_,_],_] W _) at HP
    by_cases c2:ltrs ts k=wForall
    · have c1:ltrs ts k≠wExists:=fun e=>hne (e.symm.trans c2)
      rw [decide_eq_false c1] at E1
      rw [decide_eq_true c2] at E2
      have HX:Hid (forallF ts k = .ok true (k+1)):=Lib.hid (by unfold forallF;rw [if_pos HQ.out,if_pos (.inr c2),decide_eq_true c2])
      generalize str (ltrs ts k)=x at s1 E1 E2
      clear c1 c2 hne
      go_wp2_with fail
      go_ret
      rw [HX.out]
      exact ⟨HK.out.trans (Keeps.of_below HLW.out),rfl,HR1.out.below HLW.out⟩
    · by_cases c1:ltrs ts k=wExists
      · rw [decide_eq_true c1] at E1
        rw [decide_eq_false c2] at E2
        have HX:Hid (forallF ts k = .ok false (k+1)):=Lib.hid (by unfold forallF;rw [if_pos HQ.out,if_pos (.inl c1),decide_eq_false c2])
        generalize str (ltrs ts k)=x at s1 E1 E2
        clear c1 c2 hne
        go_wp2_with fail
        go_ret
        rw [HX.out]
        exact ⟨HK.out.trans (Keeps.of_below HLW.out),rfl,HR1.out.below HLW.out⟩
      · rw [decide_eq_false c1] at E1
        rw [decide_eq_false c2] at E2
        have HX:Hid (forallF ts k = .bad k 7):=Lib.hid (by unfold forallF;rw [if_pos HQ.out,if_neg (fun h=>h.elim c1 c2)])
        generalize str (ltrs ts k)=x at s1 E1 E2 HP
        clear c1 c2 hne
        go_wp2_with fail
        refine (HP.out _).mono ?_
        rintro e w3 ⟨rfl,hb⟩
        have HB3:=Lib.hid (HLW.out.trans (hb.mono HLW.out.size))
        clear hb
        go_wp2_with fail
        rw [HX.out]
        exact ⟨rfl,HK.out.trans (Keeps.of_below HB3.out),rfl⟩
  · have HF:Hid (forallF ts k = .bad k 3):=Lib.hid (by unfold forallF;rw [if_neg hq])
    clear hk hq
    go_wp2_with fail
    rw [HF.out]
    exact ⟨rfl,HK.out,rfl⟩
end
end Go.Proofs.YtagebkachdmnbaaGreatDoor.Prs
end
section
namespace Go.Proofs.YtagebkachdmnbaaGreatDoor.Prs
open Go.RowKit Go.Proofs.YtagebkachdmnbaaGreatDoor.Mem Go.Proofs.YtagebkachdmnbaaGreatDoor.Expr Go.Proofs.YtagebkachdmnbaaGreatDoor.Prog
open Go.Proofs.YtagebkachdmnbaaGreatDoor.Lex (Tok)
def sArr (m:Mk) (av bv tv ev:Value):Array Value:=#[.int .u8 m.kind,.int .u8 m.reg,.int .u8 m.mode,.int .u8 m.loc,av,bv,tv,ev]
def nilRow:Value:=.slice none 0 0
structure St (w:World) (gS gR gp:Nat) (m:Mk):Prop where
  box:∃ av bv,Sits w gS 169 (sArr m av bv nilRow nilRow)/\Tree w (trO m.a) av/\Tree w (trO m.b) bv
  far:gp≠gS
  late:gR<gS
theorem St.stable {w w':World} {gS gR gp:Nat} {m:Mk} (h:St w gS gR gp m) (hs:Stable 204 w w') (hb:∀ cs,Sits w gS 169 cs->Sits w' gS 169 cs):St w' gS gR gp m:=by
  obtain ⟨⟨av,bv,h1,h2,h3⟩,h4,h5⟩:=h
  exact ⟨⟨av,bv,hb _ h1,h2.stable hs,h3.stable hs⟩,h4,h5⟩
def two_ (gR gS:Nat):Nat->Prop:=fun x=>x=gR \/ x=gS
def Got (gR gp gS cap:Nat) (ts:List Lex.Tok) (o:Out Mk) (w:World) (e:Ending) (w':World):Prop :=
  Keeps (two_ gR gS) w w' /\ match o with
    | .ok m k=>e = .returned (.tuple #[])/\St w' gS gR gp m/\Rd w' gR gp cap ts k
    | .bad j er=>e = .panicked (flt (tk ts j) er)
def WantC (F:FuncId) (pf:Mk->Nat->Out Mk) (gR gp cap:Nat) (ts:List Lex.Tok):Prop:=∀ (gS:Nat) (m:Mk) (k:Nat) (w:World),Rd w gR gp cap ts k->St w gS gR gp m ->
  Calls Tryz.prog F #[.pointer (some ⟨gR,0,none⟩),.pointer (some ⟨gS,0,none⟩)] w (Got gR gp gS cap ts (pf m k) w)
def placeF (ts:List Lex.Tok) (m:Mk) (k:Nat):Out Mk:=(locF ts k).map fun x=>{ m with loc:=x }
noncomputable def firstF (ts:List Lex.Tok) (m:Mk) (k:Nat):Out Mk:=(exprF ts false k).map fun a=>{ m with a:=some a }
noncomputable def secondF (ts:List Lex.Tok) (m:Mk) (k:Nat):Out Mk:=(exprF ts false k).map fun b=>{ m with b:=some b }
section
variable {gR gp cap : Nat} {ts : List Lex.Tok}
theorem Rd.cell_put {w:World} {k gS:Nat} (h:Rd w gR gp cap ts k) (hp:gp≠gS) (hl:gR<gS) (i:Nat) (v:Value):Rd (w.setCell ⟨gS,i,none⟩ v) gR gp cap ts k:=by
  have hk:Keeps (fun x=>x=gS) w (w.setCell ⟨gS,i,none⟩ v):=(Keeps.refl (fun x=>x=gS) w).put (p:=⟨gS,i,none⟩) (.inl rfl) v
  exact ⟨h.box.keep hk (by omega),fun j i' u hj hu=>by rw [World.cell?_of_block (w:=w) (Below.heap_setCell w ⟨gS,i,none⟩ v gp hp)];exact h.row j i' u hj hu,h.lt,h.cap,h.few,h.far,h.good,
    h.base.imp fun _ ⟨a,b,c⟩=>⟨a,Mem.behind b hk b.size (fun x e=>by rw [e];omega),c⟩⟩
set_option maxRecDepth 100000 in
theorem place_any:WantC 255 (placeF ts) gR gp cap ts:=by
  intro gS m k w h hs
  have HL:=Lib.hid (location_any h)
  have HS:=Lib.hid hs
  have HR:=Lib.hid h
  clear h hs
  go_enter Tryz.func255,Tryz.ntmps255
  go_wp2_with fail
  refine HL.out.mono ?_
  rintro e w1 ⟨hk,hp⟩
  have hne:gS≠gR:=by have:=HS.out.late;omega
  have HK:=Lib.hid hk
  cases hl:locF ts k with
  | ok x k1 =>
    rw [hl] at hp
    obtain ⟨hv,hr⟩:=hp
    simp only [byteV] at hv
    subst hv
    have hS1:=HS.out.stable (HR.out.stable hk) (fun cs h=>h.keep hk hne)
    obtain ⟨⟨av,bv,hb,ha,hbb⟩,hf,hlt⟩:=hS1
    have HX:Hid (placeF ts m k = .ok { m with loc:=x } k1):=Lib.hid (by unfold placeF;rw [hl];rfl)
    have HD:=Lib.hid (show Got gR gp gS cap ts (placeF ts m k) w (.returned (.tuple #[])) (w1.setCell ⟨gS,3,none⟩ (.int .u8 (x:Nat))) by
      rw [HX.out]
      have hst:=Stable.put (t:=204) hb (by decide) 3 (.int .u8 (x:Nat))
      exact ⟨(hk.wider (fun _ _ h => .inl h)).put (p:=⟨gS,3,none⟩) (.inl (.inr rfl)) _,rfl,⟨⟨av,bv,hb.put 3 _,ha.stable hst,hbb.stable hst⟩,hf,hlt⟩,hr.cell_put hf hlt 3 _⟩)
    have c3:w1.cell? ⟨gS,3,none⟩=some (.int .u8 m.loc):=hb.cell 3
    have f3:=hb.free 3
    have l3:=hb.lt
    clear hl hr ha hbb hf hlt hk hb hne
    go_wp2_with fail
    go_end0
    exact HD.out
  | bad j er =>
    rw [hl] at hp
    simp only at hp
    subst hp
    have HX:Hid (placeF ts m k = .bad j er):=Lib.hid (by unfold placeF;rw [hl];rfl)
    clear hl hk
    go_wp2_with fail
    rw [HX.out]
    exact ⟨rfl,HK.out.wider (fun _ _ h => .inl h),rfl⟩
theorem known_leaf:Leaf 282 false gR gp cap ts:=⟨enters_of Tryz.func282 (by kernel_rfl) rfl,fun _ _ h=>known_any h⟩
theorem asked_leaf:Leaf 183 true gR gp cap ts:=⟨enters_of Tryz.func183 (by kernel_rfl) rfl,fun _ _ h=>asked_any h⟩
set_option maxRecDepth 100000 in
theorem first_any:WantC 254 (firstF ts) gR gp cap ts:=by
  intro gS m k w h hs
  have HL:=Lib.hid (show Calls _ _ #[_,.func (.func 282) #[.pointer (some ⟨gR,0,none⟩)] #[]] w _ from expression_any known_leaf h)
  have HS:=Lib.hid hs
  have HR:=Lib.hid h
  clear h hs
  go_enter Tryz.func254,Tryz.ntmps254
  go_wp2_with fail
  refine HL.out.mono ?_
  rintro e w1 ⟨hk,hp⟩
  have hne:gS≠gR:=by have:=HS.out.late;omega
  have HK:=Lib.hid hk
  cases hl:exprF ts false k with
  | ok x k1 =>
    rw [hl] at hp
    obtain ⟨⟨pt,rfl,hv⟩,hr⟩:=hp
    have hS1:=HS.out.stable (HR.out.stable hk) (fun cs h=>h.keep hk hne)
    obtain ⟨⟨av,bv,hb,ha,hbb⟩,hf,hlt⟩:=hS1
    have HX:Hid (firstF ts m k = .ok { m with a:=some x } k1):=Lib.hid (by unfold firstF;rw [hl];rfl)
    have HD:=Lib.hid (show Got gR gp gS cap ts (firstF ts m k) w (.returned (.tuple #[])) (w1.setCell ⟨gS,4,none⟩ (.pointer pt)) by
      rw [HX.out]
      have hst:=Stable.put (t:=204) hb (by decide) 4 (.pointer pt)
      exact ⟨(hk.wider (fun _ _ h => .inl h)).put (p:=⟨gS,4,none⟩) (.inl (.inr rfl)) _,rfl,⟨⟨.pointer pt,bv,hb.put 4 _,hv.stable hst,hbb.stable hst⟩,hf,hlt⟩,hr.cell_put hf hlt 4 _⟩)
    have c3:w1.cell? ⟨gS,4,none⟩=some av:=hb.cell 4
    have f3:=hb.free 4
    have l3:=hb.lt
    clear hl hr ha hbb hf hlt hk hb hne hv
    go_wp2_with fail
    go_end0
    exact HD.out
  | bad j er =>
    rw [hl] at hp
    simp only at hp
    subst hp
    have HX:Hid (firstF ts m k = .bad j er):=Lib.hid (by unfold firstF;rw [hl];rfl)
    clear hl hk
    go_wp2_with fail
    rw [HX.out]
    exact ⟨rfl,HK.out.wider (fun _ _ h => .inl h),rfl⟩
set_option maxRecDepth 100000 in
theorem second_any:WantC 284 (secondF ts) gR gp cap ts:=by
  intro gS m k w h hs
  have HL:=Lib.hid (show Calls _ _ #[_,.func (.func 282) #[.pointer (some ⟨gR,0,none⟩)] #[]] w _ from expression_any known_leaf h)
  have HS:=Lib.hid hs
  have HR:=Lib.hid h
  clear h hs
  go_enter Tryz.func284,Tryz.ntmps284
  go_wp2_with fail
  refine HL.out.mono ?_
  rintro e w1 ⟨hk,hp⟩
  have hne:gS≠gR:=by have:=HS.out.late;omega
  have HK:=Lib.hid hk
  cases hl:exprF ts false k with
  | ok x k1 =>
    rw [hl] at hp
    obtain ⟨⟨pt,rfl,hv⟩,hr⟩:=hp
    have hS1:=HS.out.stable (HR.out.stable hk) (fun cs h=>h.keep hk hne)
    obtain ⟨⟨av,bv,hb,ha,hbb⟩,hf,hlt⟩:=hS1
    have HX:Hid (secondF ts m k = .ok { m with b:=some x } k1):=Lib.hid (by unfold secondF;rw [hl];rfl)
    have HD:=Lib.hid (show Got gR gp gS cap ts (secondF ts m k) w (.returned (.tuple #[])) (w1.setCell ⟨gS,5,none⟩ (.pointer pt)) by
      rw [HX.out]
      have hst:=Stable.put (t:=204) hb (by decide) 5 (.pointer pt)
      exact ⟨(hk.wider (fun _ _ h => .inl h)).put (p:=⟨gS,5,none⟩) (.inl (.inr rfl)) _,rfl,⟨⟨av,.pointer pt,hb.put 5 _,ha.stable hst,hv.stable hst⟩,hf,hlt⟩,hr.cell_put hf hlt 5 _⟩)
    have c3:w1.cell? ⟨gS,5,none⟩=some bv:=hb.cell 5
    have f3:=hb.free 5
    have l3:=hb.lt
    clear hl hr ha hbb hf hlt hk hb hne hv
    go_wp2_with fail
    go_end0
    exact HD.out
  | bad j er =>
    rw [hl] at hp
    simp only at hp
    subst hp
    have HX:Hid (secondF ts m k = .bad j er):=Lib.hid (by unfold secondF;rw [hl];rfl)
    clear hl hk
    go_wp2_with fail
    rw [HX.out]
    exact ⟨rfl,HK.out.wider (fun _ _ h => .inl h),rfl⟩
end
end Go.Proofs.YtagebkachdmnbaaGreatDoor.Prs
end
section
namespace Go.Proofs.YtagebkachdmnbaaGreatDoor.Prs
open Go.RowKit Go.Proofs.YtagebkachdmnbaaGreatDoor.Mem Go.Proofs.YtagebkachdmnbaaGreatDoor.Expr Go.Proofs.YtagebkachdmnbaaGreatDoor.Prog
open Go.Proofs.YtagebkachdmnbaaGreatDoor.Lex (Tok)
def partsF (ts:List Lex.Tok):Bool->List (Mk->Nat->Out Mk)->Mk->Nat->Out Mk
  | _,[],m,k => .ok m k
  | first,pf :: r,m,k=>(if first then .ok () k else signF ts [44] k).bind fun _ k=>(pf m k).bind fun m k=>partsF ts false r m k
def withinF (ts:List Lex.Tok) (l:List (Mk->Nat->Out Mk)) (m:Mk) (k:Nat):Out Mk:=(signF ts [40] k).bind fun _ k=>(partsF ts true l m k).bind fun m k=>(signF ts [41] k).map fun _=>m
theorem bind_bad {α β:Type} {o:Out α} {f:α->Nat->Out β} {j er:Nat} (h:o = .bad j er):o.bind f = .bad j er:=by rw [h];rfl
theorem bind_ok {α β:Type} {o:Out α} {f:α->Nat->Out β} {a:α} {k:Nat} (h:o = .ok a k):o.bind f=f a k:=by rw [h];rfl
structure Wants (w:World) (gw gR gS cap:Nat) (gp:Nat) (ts:List Lex.Tok) (l:List (FuncId × (Mk->Nat->Out Mk))):Prop where
  row:∀ i p,l[i]? = some p->w.cell? ⟨gw,i,none⟩=some (leafFn p.1 gR)
  each:∀ p ∈ l,Expr.Enters p.1/\WantC p.1 p.2 gR gp cap ts
  farR:gw≠gR
  farS:gw≠gS
theorem Wants.keep {w w':World} {gw gR gS cap gp:Nat} {ts:List Lex.Tok} {l:List (FuncId × (Mk->Nat->Out Mk))} (h:Wants w gw gR gS cap gp ts l) (hk:Keeps (two_ gR gS) w w'):Wants w' gw gR gS cap gp ts l :=
  ⟨fun i p hp=>by
    have hc:=h.row i p hp
    rw [World.cell?_of_block (w:=w) (hk.block gw (World.block_lt_of_cell? _ _ hc) (fun e=>e.elim h.farR h.farS))];exact hc,h.each,h.farR,h.farS⟩
section
variable {gR gp cap : Nat} {ts : List Lex.Tok}
theorem one_two {gS:Nat} {w w':World} (h:Keeps (fun x=>x=gR) w w'):Keeps (two_ gR gS) w w':=h.wider fun _ _ h => .inl h
theorem St.keepR {w w':World} {gS k:Nat} {m:Mk} (h:St w gS gR gp m) (hr:Rd w gR gp cap ts k) (hk:Keeps (fun x=>x=gR) w w'):St w' gS gR gp m :=
  h.stable (hr.stable hk) fun cs hc=>hc.keep hk (by have:=h.late;omega)
set_option maxRecDepth 100000 in
set_option maxHeartbeats 1000000 in
theorem within_any (gS gw cw:Nat) (l:List (FuncId × (Mk->Nat->Out Mk))) (hl:l.length<=100) (m:Mk) (k:Nat) (w:World) (h:Rd w gR gp cap ts k) (hs:St w gS gR gp m) (hw:Wants w gw gR gS cap gp ts l) :
    Calls Tryz.prog 253 #[.pointer (some ⟨gR,0,none⟩),.pointer (some ⟨gS,0,none⟩),.slice (some ⟨gw,0,none⟩) l.length cw] w (Got gR gp gS cap ts (withinF ts (l.map (·.2)) m k) w):=by
  have HSG:=Lib.hid (fun k2 s (hs:s ≠ []) W (hr:Rd W gR gp cap ts k2)=>sign_any hr s hs)
  have HS:=Lib.hid hs
  have HR:=Lib.hid h
  have HW:=Lib.hid hw
  have S0:=Lib.hid (sign_any h [40] (by simp))
  have l1:(l.length:Int)<=100:=by omega
  clear h hs hw
  go_enter Tryz.func253,Tryz.ntmps253
  go_wp2_with fail
  refine S0.out.mono ?_
  rintro e w1 ⟨hk,hp⟩
  cases hq:signF ts [40] k with
  | bad j er =>
    rw [hq] at hp
    simp only at hp
    subst hp
    have HK:=Lib.hid hk
    have HX:Hid (withinF ts (l.map (·.2)) m k = .bad j er):=Lib.hid (bind_bad hq)
    clear hk hq
    go_wp2_with fail
    rw [HX.out]
    exact ⟨rfl,one_two HK.out,rfl⟩
  | ok u k1 =>
  rw [hq] at hp
  obtain ⟨hv,hr⟩:=hp
  simp only [unitV] at hv
  subst hv
  have HX:Hid (withinF ts (l.map (·.2)) m k=(partsF ts true (l.map (·.2)) m k1).bind fun m k=>(signF ts [41] k).map fun _=>m):=Lib.hid (bind_ok hq)
  have HK1:=Lib.hid (one_two (gS:=gS) hk)
  have HS1:=Lib.hid (HS.out.keepR HR.out hk)
  have HR1:=Lib.hid hr
  have HW1:=Lib.hid (HW.out.keep (one_two hk))
  clear hk hr hq
  go_wp2_with fail
  go_loopg [12] l.length (fun gg v12 wx=>∃ (i:Nat) (m':Mk) (k':Nat),i<=l.length/\gg=l.length - i/\v12 = .int .i64 (i:Nat)/\Hid (St wx gS gR gp m')/\Hid (Rd wx gR gp cap ts k')/\Hid (Keeps (two_ gR gS) w wx)/\Hid (partsF ts true (l.map (·.2)) m k1=partsF ts (decide (i=0)) ((l.drop i).map (·.2)) m' k')/\Hid (Wants wx gw gR gS cap gp ts l))
  case atStart=>exact ⟨0,m,k1,by omega,by omega,rfl,HS1,HR1,HK1,Lib.hid (by simp),HW1⟩
  case round =>
    obtain ⟨i,m',k',hi,rfl,rfl,HSi,HRi,HKi,HPi,HWi⟩:=hrel
    by_cases hil:i<l.length
    · have hx:l[i]? = some l[i]:=List.getElem?_eq_getElem hil
      generalize l[i]=p at hx
      have hc:=HWi.out.row i p hx
      unfold leafFn at hc
      have HEW:=Lib.hid (HWi.out.each p (List.mem_of_getElem? hx))
      have en:=HEW.out.1
      unfold Expr.Enters at en
      have hd:l.drop i=p :: l.drop (i+1):=by
        rw [List.drop_eq_getElem_cons hil]
        rw [List.getElem?_eq_getElem hil] at hx
        rw [Option.some.inj hx]
      have HPE:=Lib.hid (show partsF ts true (l.map (·.2)) m k1=(if decide (i=0) then .ok () k' else signF ts [44] k').bind fun _ k=>(p.2 m' k).bind fun m k=>partsF ts false ((l.drop (i+1)).map (·.2)) m k by rw [HPi.out,hd];rfl)
      have lw:=World.block_lt_of_cell? _ _ hc
      have m1:(i:Int)<(l.length:Int):=by omega
      have m0:(0:Int)<=(i:Int):=by omega
      clear hd hx HPi
      by_cases hi0:i=0
      · have m2:¬ (0:Int)<(i:Int):=by omega
        have HPF:=Lib.hid (show partsF ts true (l.map (·.2)) m k1=(p.2 m' k').bind fun m k=>partsF ts false ((l.drop (i+1)).map (·.2)) m k by rw [HPE.out,if_pos (decide_eq_true hi0)];rfl)
        clear hi0 HPE
        have HC:=Lib.hid (HEW.out.2 gS m' k' wr HRi.out HSi.out)
        go_wp2_with fail
        refine HC.out.mono ?_
        rintro e w8 ⟨hk,hp⟩
        have HK8:=Lib.hid (HKi.out.trans hk)
        have HW8:=Lib.hid (HWi.out.keep hk)
        clear hk
        cases hq:p.2 m' k' with
        | bad j er =>
          rw [hq] at hp
          simp only at hp
          subst hp
          have HX2:Hid (withinF ts (l.map (·.2)) m k = .bad j er):=Lib.hid (by rw [HX.out,HPF.out,bind_bad hq];rfl)
          clear hq
          go_wp2_with fail
          rw [HX2.out]
          exact ⟨rfl,HK8.out,rfl⟩
        | ok m2 k3 =>
          rw [hq] at hp
          obtain ⟨hv,hs8,hr8⟩:=hp
          subst hv
          have HS8:=Lib.hid hs8
          have HR8:=Lib.hid hr8
          have HP8:=Lib.hid (show partsF ts true (l.map (·.2)) m k1=partsF ts (decide (i+1=0)) ((l.drop (i+1)).map (·.2)) m2 k3 by rw [HPF.out,bind_ok hq,decide_eq_false (by omega)])
          clear hq hs8 hr8
          go_wp2_with fail
          go_roundg (l.length - (i+1))
          case measure=>omega
          case rel=>exact ⟨i+1,m2,k3,by omega,rfl,by go_num,HS8,HR8,HK8,HP8,HW8⟩
      · have m2:(0:Int)<(i:Int):=by omega
        have HPF:=Lib.hid (show partsF ts true (l.map (·.2)) m k1=(signF ts [44] k').bind fun _ k=>(p.2 m' k).bind fun m k=>partsF ts false ((l.drop (i+1)).map (·.2)) m k by rw [HPE.out,if_neg (by rw [decide_eq_false hi0];exact Bool.false_ne_true)])
        have S1:=Lib.hid (HSG.out k' [44] (by simp) wr HRi.out)
        clear hi0 HPE
        go_wp2_with fail
        refine S1.out.mono ?_
        rintro e w7 ⟨hk,hp⟩
        have HK7:=Lib.hid (HKi.out.trans (one_two hk))
        have HS7:=Lib.hid (HSi.out.keepR HRi.out hk)
        have HW7:=Lib.hid (HWi.out.keep (one_two hk))
        clear hk
        cases hq:signF ts [44] k' with
        | bad j er =>
          rw [hq] at hp
          simp only at hp
          subst hp
          have HX3:Hid (withinF ts (l.map (·.2)) m k = .bad j er):=Lib.hid (by rw [HX.out,HPF.out,bind_bad hq];rfl)
          clear hq
          go_wp2_with fail
          rw [HX3.out]
          exact ⟨rfl,HK7.out,rfl⟩
        | ok u7 k7 =>
          rw [hq] at hp
          obtain ⟨hv,hr⟩:=hp
          simp only [unitV] at hv
          subst hv
          have HR7:=Lib.hid hr
          have HPG:=Lib.hid (show partsF ts true (l.map (·.2)) m k1=(p.2 m' k7).bind fun m k=>partsF ts false ((l.drop (i+1)).map (·.2)) m k by rw [HPF.out,bind_ok hq])
          clear hq hr HPF
          have HC:=Lib.hid (HEW.out.2 gS m' k7 w7 HR7.out HS7.out)
          go_wp2_with fail
          refine HC.out.mono ?_
          rintro e w8 ⟨hk,hp⟩
          have HK8:=Lib.hid (HK7.out.trans hk)
          have HW8:=Lib.hid (HW7.out.keep hk)
          clear hk
          cases hq:p.2 m' k7 with
          | bad j er =>
            rw [hq] at hp
            simp only at hp
            subst hp
            have HX2:Hid (withinF ts (l.map (·.2)) m k = .bad j er):=Lib.hid (by rw [HX.out,HPG.out,bind_bad hq];rfl)
            clear hq
            go_wp2_with fail
            rw [HX2.out]
            exact ⟨rfl,HK8.out,rfl⟩
          | ok m2 k3 =>
            rw [hq] at hp
            obtain ⟨hv,hs8,hr8⟩:=hp
            subst hv
            have HS8:=Lib.hid hs8
            have HR8:=Lib.hid hr8
            have HP8:=Lib.hid (show partsF ts true (l.map (·.2)) m k1=partsF ts (decide (i+1=0)) ((l.drop (i+1)).map (·.2)) m2 k3 by rw [HPG.out,bind_ok hq,decide_eq_false (by omega)])
            clear hq hs8 hr8
            go_wp2_with fail
            go_roundg (l.length - (i+1))
            case measure=>omega
            case rel=>exact ⟨i+1,m2,k3,by omega,rfl,by go_num,HS8,HR8,HK8,HP8,HW8⟩
    · obtain rfl:i=l.length:=by omega
      have m1:¬ ((l.length:Int)<(l.length:Int)):=by omega
      have S1:=Lib.hid (HSG.out k' [41] (by simp) wr HRi.out)
      have HX2:Hid (withinF ts (l.map (·.2)) m k=(signF ts [41] k').map fun _=>m'):=Lib.hid (by rw [HX.out,HPi.out,List.drop_length];rfl)
      clear hi hil
      go_wp2_with fail
      refine S1.out.mono ?_
      rintro e w2 ⟨hk,hp⟩
      have HK2:=Lib.hid (HKi.out.trans (one_two hk))
      have HS2:=Lib.hid (HSi.out.keepR HRi.out hk)
      clear hk
      cases hq:signF ts [41] k' with
      | bad j er =>
        rw [hq] at hp
        simp only at hp
        subst hp
        have HX3:Hid (withinF ts (l.map (·.2)) m k = .bad j er):=Lib.hid (by rw [HX2.out,hq];rfl)
        clear hq
        go_wp2_with fail
        rw [HX3.out]
        exact ⟨rfl,HK2.out,rfl⟩
      | ok u k2 =>
        rw [hq] at hp
        obtain ⟨hv,hr⟩:=hp
        simp only [unitV] at hv
        subst hv
        have HX3:Hid (withinF ts (l.map (·.2)) m k = .ok m' k2):=Lib.hid (by rw [HX2.out,hq];rfl)
        have HR2:=Lib.hid hr
        clear hq hr
        go_wp2_with fail
        go_end0
        rw [HX3.out]
        exact ⟨HK2.out,rfl,HS2.out,HR2.out⟩
end
end Go.Proofs.YtagebkachdmnbaaGreatDoor.Prs
end
section
namespace Go.Proofs.YtagebkachdmnbaaGreatDoor.Prs
open Go.Proofs.YtagebkachdmnbaaGreatDoor.Expr Go.Proofs.YtagebkachdmnbaaGreatDoor.Prog
open Go.Proofs.YtagebkachdmnbaaGreatDoor.Lex (Tok)
theorem obind_assoc {α β γ:Type} (o:Out α) (f:α->Nat->Out β) (g:β->Nat->Out γ):(o.bind f).bind g=o.bind fun a k=>(f a k).bind g:=by
  cases o <;> rfl
theorem omap_bind {α β γ:Type} (o:Out α) (f:α->β) (g:β->Nat->Out γ):(o.map f).bind g=o.bind fun a k=>g (f a) k:=by
  cases o <;> rfl
theorem obind_map {α β γ:Type} (o:Out α) (f:α->Nat->Out β) (g:β->γ):(o.bind f).map g=o.bind fun a k=>(f a k).map g:=by
  cases o <;> rfl
theorem omap_map {α β γ:Type} (o:Out α) (f:α->β) (g:β->γ):(o.map f).map g=o.map fun a=>g (f a):=by
  cases o <;> rfl
def modeMF (ts:List Lex.Tok) (m:Mk) (k:Nat):Out Mk:=(modeF ts m.kind k).map fun x=>{ m with mode:=x }
noncomputable def partsOf (ts:List Lex.Tok) (kind:Nat):List (Mk->Nat->Out Mk) :=
  if kind=7 then [modeMF ts] else if kind=2 then [placeF ts,modeMF ts] else if kind=6 then [placeF ts,firstF ts,secondF ts,modeMF ts] else [placeF ts,firstF ts,modeMF ts]
def endF (ts:List Lex.Tok) (m:Mk) (k:Nat):Out Mk:=(signF ts [59] k).map fun _=>m
theorem ok_bind {α β:Type} (a:α) (k:Nat) (f:α->Nat->Out β):(Out.ok a k).bind f=f a k:=rfl
theorem call_7 (ts:List Lex.Tok) (r k:Nat):callF ts 7 r k=(withinF ts (partsOf ts 7) ⟨7,r,0,0,none,none⟩ k).bind (endF ts):=by
  simp [callF,withinF,partsOf,partsF,modeMF,endF,obind_assoc,omap_bind,ok_bind]
theorem call_2 (ts:List Lex.Tok) (r k:Nat):callF ts 2 r k=(withinF ts (partsOf ts 2) ⟨2,r,0,0,none,none⟩ k).bind (endF ts):=by
  simp [callF,withinF,partsOf,partsF,placeF,modeMF,endF,obind_assoc,omap_bind,ok_bind]
theorem call_6 (ts:List Lex.Tok) (r k:Nat):callF ts 6 r k=(withinF ts (partsOf ts 6) ⟨6,r,0,0,none,none⟩ k).bind (endF ts):=by
  simp [callF,withinF,partsOf,partsF,placeF,firstF,secondF,modeMF,endF,obind_assoc,omap_bind,ok_bind]
theorem call_3 (ts:List Lex.Tok) (r k:Nat):callF ts 3 r k=(withinF ts (partsOf ts 3) ⟨3,r,0,0,none,none⟩ k).bind (endF ts):=by
  simp [callF,withinF,partsOf,partsF,placeF,firstF,modeMF,endF,obind_assoc,omap_bind,ok_bind]
theorem call_4 (ts:List Lex.Tok) (r k:Nat):callF ts 4 r k=(withinF ts (partsOf ts 4) ⟨4,r,0,0,none,none⟩ k).bind (endF ts):=by
  simp [callF,withinF,partsOf,partsF,placeF,firstF,modeMF,endF,obind_assoc,omap_bind,ok_bind]
theorem call_5 (ts:List Lex.Tok) (r k:Nat):callF ts 5 r k=(withinF ts (partsOf ts 5) ⟨5,r,0,0,none,none⟩ k).bind (endF ts):=by
  simp [callF,withinF,partsOf,partsF,placeF,firstF,modeMF,endF,obind_assoc,omap_bind,ok_bind]
noncomputable def got0 (ts:List Lex.Tok) (r k:Nat):Out Mk :=
  if ltrs ts k=wLoad then withinF ts (partsOf ts 2) ⟨2,r,0,0,none,none⟩ (k+1)
  else if ltrs ts k=wSwap then withinF ts (partsOf ts 4) ⟨4,r,0,0,none,none⟩ (k+1)
  else if ltrs ts k=wAdd then withinF ts (partsOf ts 5) ⟨5,r,0,0,none,none⟩ (k+1)
  else if ltrs ts k=wCas then withinF ts (partsOf ts 6) ⟨6,r,0,0,none,none⟩ (k+1)
  else firstF ts ⟨1,r,0,0,none,none⟩ k
theorem gotF_of (ts:List Lex.Tok) (r k:Nat):gotF ts r k=(got0 ts r k).bind (endF ts):=by
  unfold gotF got0
  split
  · exact call_2 ts r _
  split
  · exact call_4 ts r _
  split
  · exact call_5 ts r _
  split
  · exact call_6 ts r _
  simp [firstF,endF,omap_bind]
section
variable {ts : List Lex.Tok}
def Out.In {α:Type} (n lo:Nat) (o:Out α):Prop:=∀ a k,o = .ok a k->lo<=k/\k<n
theorem in_bad {α:Type} {n lo j e:Nat}:(Out.bad (α:=α) j e).In n lo:=fun _ _ h=>by cases h
theorem in_ok {α:Type} {n lo k:Nat} {a:α} (h1:lo<=k) (h2:k<n):(Out.ok a k).In n lo:=fun _ _ h=>by injection h with _ h;subst h;exact ⟨h1,h2⟩
theorem in_bind {α β:Type} {n lo:Nat} {o:Out α} {f:α->Nat->Out β} (h1:o.In n lo) (h2:∀ a k,lo<=k->k<n->(f a k).In n lo):(o.bind f).In n lo:=by
  cases o with
  | bad j e=>exact in_bad
  | ok a k=>exact h2 a k (h1 a k rfl).1 (h1 a k rfl).2
theorem in_map {α β:Type} {n lo:Nat} {o:Out α} {f:α->β} (h1:o.In n lo):(o.map f).In n lo:=by
  cases o with
  | bad j e=>exact in_bad
  | ok a k=>exact in_ok (h1 a k rfl).1 (h1 a k rfl).2
theorem in_low {α:Type} {n lo l2:Nat} {o:Out α} (h:o.In n l2) (hl:lo<=l2):o.In n lo:=fun a k e=>⟨Nat.le_trans hl (h a k e).1,(h a k e).2⟩
theorem word_in (hg:Good ts) {α:Type} {f:List UInt8->Option α} {k lo:Nat} (hk:k<ts.length) (hl:lo<=k+1):(wordF ts f k).In ts.length lo:=by
  unfold wordF
  split
  · rename_i hq
    have:=hg.more k hk (by omega)
    split
    · exact in_ok hl (by omega)
    · exact in_bad
  · exact in_bad
theorem sign_in (hg:Good ts) {s:List UInt8} (hs:s ≠ []) {k lo:Nat} (hk:k<ts.length) (hl:lo<=k+1):(signF ts s k).In ts.length lo:=by
  unfold signF
  split
  · rename_i hc
    have:=hg.more k hk fun h0=>hs (by rw [<- hc,hg.fin k hk h0])
    exact in_ok hl (by omega)
  · exact in_bad
theorem expr_in (hg:Good ts) (ask:Bool) {k lo:Nat} (hk:k<ts.length) (hl:lo<=k+1):(exprF ts ask k).In ts.length lo:=by
  obtain ⟨out,hx,hb⟩:=(px_total (ask:=ask) hg (ts.length - k) k (Nat.le_refl _) hk).2 0 1 (by omega) (by omega)
  rw [exprF_of hx]
  cases out with
  | bad j e=>exact in_bad
  | ok a k1 =>
    have h1:k<k1:=hx.grows _ _ rfl
    have h2:=hb _ _ rfl
    show (if 12<a.depth then Out.bad k 4 else Out.ok a k1).In ts.length lo
    split
    · exact in_bad
    · exact in_ok (by omega) h2
theorem call_in (hg:Good ts) (kind r:Nat) {k lo:Nat} (hk:k<ts.length) (hl:lo<=k+1):(callF ts kind r k).In ts.length lo:=by
  unfold callF
  refine in_bind (sign_in hg (by simp) hk hl) fun _ k h1 h2=>in_bind ?_ fun x k h1 h2=>in_bind ?_ fun a k h1 h2=>in_bind ?_ fun b k h1 h2=>in_bind (word_in hg h2 (by omega)) fun m k h1 h2=>in_bind (sign_in hg (by simp) h2 (by omega)) fun _ k h1 h2=>in_map (sign_in hg (by simp) h2 (by omega))
  · split
    · exact in_ok h1 h2
    · exact in_bind (word_in hg h2 (by omega)) fun x k h1 h2=>in_map (sign_in hg (by simp) h2 (by omega))
  · split
    · exact in_ok h1 h2
    · exact in_bind (expr_in hg false h2 (by omega)) fun x k h1 h2=>in_map (sign_in hg (by simp) h2 (by omega))
  · split
    · exact in_bind (expr_in hg false h2 (by omega)) fun x k h1 h2=>in_map (sign_in hg (by simp) h2 (by omega))
    · exact in_ok h1 h2
theorem got_in (hg:Good ts) (r:Nat) {k lo:Nat} (hk:k<ts.length) (hl:lo<=k+1):(gotF ts r k).In ts.length lo:=by
  have hm:∀ s:List UInt8,s ≠ []->ltrs ts k=s->k+1<ts.length:=fun s hs hc=>hg.more k hk fun h0=>hs (by rw [<- hc,hg.fin k hk h0])
  unfold gotF
  split
  · rename_i hc;exact call_in hg 2 r (hm _ (by decide) hc) (by omega)
  split
  · rename_i hc;exact call_in hg 4 r (hm _ (by decide) hc) (by omega)
  split
  · rename_i hc;exact call_in hg 5 r (hm _ (by decide) hc) (by omega)
  split
  · rename_i hc;exact call_in hg 6 r (hm _ (by decide) hc) (by omega)
  exact in_bind (expr_in hg false hk hl) fun x k h1 h2=>in_map (sign_in hg (by simp) h2 (by omega))
theorem flat_in (hg:Good ts) {k lo:Nat} (hk:k<ts.length) (hl:lo<=k+1):(flatF ts k).In ts.length lo:=by
  have hm:∀ s:List UInt8,s ≠ []->ltrs ts k=s->k+1<ts.length:=fun s hs hc=>hg.more k hk fun h0=>hs (by rw [<- hc,hg.fin k hk h0])
  unfold flatF
  split
  · rename_i hc;exact call_in hg 3 0 (hm _ (by decide) hc) (by omega)
  split
  · rename_i hc;exact call_in hg 7 0 (hm _ (by decide) hc) (by omega)
  exact in_bind (word_in hg hk hl) fun r k h1 h2=>in_bind (sign_in hg (by simp) h2 (by omega)) fun _ k h1 h2=>in_low (got_in hg r h2 (by omega)) h1
theorem cond_in (hg:Good ts) {k lo:Nat} (hk:k<ts.length) (hl:lo<=k+1):(condF ts k).In ts.length lo:=by
  unfold condF
  exact in_bind (sign_in hg (by simp) hk hl) fun _ k h1 h2=>in_bind (expr_in hg false h2 (by omega)) fun a k h1 h2=>in_map (sign_in hg (by simp) h2 (by omega))
theorem bx_total (hg:Good ts):∀ (n k:Nat),ts.length - k<=n->k<ts.length->∀ d,(∃ out,Bx ts (.block d) k out/\out.In ts.length (k+1))/\(∃ out,Bx ts (.stmt d) k out/\out.In ts.length (k+1)/\∀ b k1,out = .ok b k1->∃ m t e,b = .cons m t e .nil) /\
    ∀ q,∃ out,Bx ts (.more d q) k out/\out.In ts.length (k+1):=by
  intro n
  induction n with
  | zero=>intro k h1 h2;omega
  | succ n ih =>
    intro k h1 h2 d
    have hm:∀ s:List UInt8,s ≠ []->ltrs ts k=s->k+1<ts.length:=fun s hs hc=>hg.more k h2 fun h0=>hs (by rw [<- hc,hg.fin k h2 h0])
    have hst:∃ out,Bx ts (.stmt d) k out/\out.In ts.length (k+1)/\∀ b k1,out = .ok b k1->∃ m t e,b = .cons m t e .nil:=by
      by_cases hq:ltrs ts k=wIf \/ ltrs ts k=wWhile
      · have hk1:k+1<ts.length:=hq.elim (hm _ (by decide)) (hm _ (by decide))
        have hc:=cond_in hg hk1 (lo:=k+1) (by omega)
        cases hcc:condF ts (k+1) with
        | bad j er=>exact ⟨_,.headBad hq hcc,in_bad,fun _ _ h=>by cases h⟩
        | ok a k1 =>
          obtain ⟨l1,l2⟩:=hc a k1 hcc
          obtain ⟨o1,hb1,hi1⟩:=(ih k1 (by omega) l2 (d+1)).1
          cases o1 with
          | bad j er=>exact ⟨_,.thenBad hq hcc hb1,in_bad,fun _ _ h=>by cases h⟩
          | ok t k2 =>
            obtain ⟨l3,l4⟩:=hi1 t k2 rfl
            rcases hq with hq | hq
            · by_cases he:ltrs ts k2=wElse
              · have hk3:k2+1<ts.length:=hg.more k2 l4 fun h0=>by rw [hg.fin k2 l4 h0] at he;cases he
                obtain ⟨o2,hb2,hi2⟩:=(ih (k2+1) (by omega) hk3 (d+1)).1
                refine ⟨_,.other hq hcc hb1 he hb2,in_map (in_low hi2 (by omega)),fun b k1 h=>?_⟩
                cases o2 with
                | bad j er=>cases h
                | ok e k4=>injection h with h _;exact ⟨_,_,_,h.symm⟩
              · exact ⟨_,.cond hq hcc hb1 he,in_ok (by omega) l4,fun b k1 h=>by injection h with h _;exact ⟨_,_,_,h.symm⟩⟩
            · exact ⟨_,.loop hq hcc hb1,in_ok (by omega) l4,fun b k1 h=>by injection h with h _;exact ⟨_,_,_,h.symm⟩⟩
      · refine ⟨_,.flat (fun h=>hq (.inl h)) (fun h=>hq (.inr h)),in_map (flat_in hg h2 (Nat.le_refl _)),fun b k1 h=>?_⟩
        cases hf:flatF ts k with
        | bad j er=>rw [hf] at h;cases h
        | ok m k1=>rw [hf] at h;injection h with h _;exact ⟨_,_,_,h.symm⟩
    have hmo:∀ q,∃ out,Bx ts (.more d q) k out/\out.In ts.length (k+1):=by
      intro q
      by_cases hc:ltrs ts k=[125]
      · exact ⟨_,.close hc,in_ok (Nat.le_refl _) (hm _ (by simp) hc)⟩
      · obtain ⟨out,hs,hi,hf⟩:=hst
        cases out with
        | bad j er=>exact ⟨_,.stepBad hc hs,in_bad⟩
        | ok b k1 =>
          obtain ⟨m,t,e,rfl⟩:=hf _ _ rfl
          obtain ⟨l1,l2⟩:=hi _ _ rfl
          obtain ⟨o2,hb2,hi2⟩:=(ih k1 (by omega) l2 d).2.2 (q.snoc m t e)
          exact ⟨_,.step hc hs hb2,in_low hi2 (by omega)⟩
    refine ⟨?_,hst,hmo⟩
    by_cases hc:ltrs ts k=[123]
    · by_cases hd:8<d
      · exact ⟨_,.deep hc hd,in_bad⟩
      · have hk1:=hm _ (by simp) hc
        obtain ⟨o,hb,hi⟩:=(ih (k+1) (by omega) hk1 d).2.2 .nil
        exact ⟨_,.block hc (by omega) hb,in_low hi (by omega)⟩
    · exact ⟨_,.none hc,in_bad⟩
theorem init_in (hg:Good ts) {k lo:Nat} (hk:k<ts.length) (hl:lo<=k+1):(initF ts k).In ts.length lo:=by
  unfold initF
  refine in_bind (word_in hg hk hl) fun x k h1 h2=>in_bind (sign_in hg (by simp) h2 (by omega)) fun _ k h1 h2=>in_bind ?_ fun n k h1 h2=>in_map (sign_in hg (by simp) h2 (by omega))
  split
  · rename_i hq
    have:=hg.more k h2 (by omega)
    exact in_ok (by omega) (by omega)
  · exact in_bad
theorem tx_threads (hg:Good ts) (l:List (Nat × Nat)):∀ (n k:Nat),ts.length - k<=n->k<ts.length->∀ q,∃ out,Tx ts (.threads l q) k out:=by
  intro n
  induction n with
  | zero=>intro k h1 h2;omega
  | succ n ih =>
    intro k h1 h2 q
    by_cases ht:ltrs ts k=wThread
    · by_cases hq:4<=q.length
      · exact ⟨_,.many ht hq⟩
      · have hk1:k+1<ts.length:=hg.more k h2 fun h0=>by rw [hg.fin k h2 h0] at ht;cases ht
        obtain ⟨o,hb,hi⟩:=(bx_total hg _ (k+1) (Nat.le_refl _) hk1 1).1
        cases o with
        | bad j er=>exact ⟨_,.threadBad ht (by omega) hb⟩
        | ok b k1 =>
          obtain ⟨l1,l2⟩:=hi _ _ rfl
          obtain ⟨out,hx⟩:=ih k1 (by omega) l2 (q ++ [b])
          exact ⟨_,.thread ht (by omega) hb hx⟩
    · exact ⟨_,.ask ht⟩
theorem tx_total (hg:Good ts):∀ (n k:Nat),ts.length - k<=n->k<ts.length->∀ l,∃ out,Tx ts (.inits l) k out:=by
  intro n
  induction n with
  | zero=>intro k h1 h2;omega
  | succ n ih =>
    intro k h1 h2 l
    by_cases hi:ltrs ts k=wInit
    · have hk1:k+1<ts.length:=hg.more k h2 fun h0=>by rw [hg.fin k h2 h0] at hi;cases hi
      have hin:=init_in hg hk1 (lo:=k+1) (by omega)
      cases hx:initF ts (k+1) with
      | bad j er=>exact ⟨_,.initBad hi hx⟩
      | ok x k1 =>
        obtain ⟨l1,l2⟩:=hin _ _ hx
        obtain ⟨out,ho⟩:=ih k1 (by omega) l2 (l ++ [x])
        exact ⟨_,.init hi hx ho⟩
    · obtain ⟨out,ho⟩:=tx_threads hg l _ k (Nat.le_refl _) h2 []
      exact ⟨_,.inited hi ho⟩
end
end Go.Proofs.YtagebkachdmnbaaGreatDoor.Prs
end
