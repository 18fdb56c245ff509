/- Part 46 of the proof: what is used of the texts ThrK. -/
import Derived.Test.YtagebkachdmnbaaGreatDoorEE4
section
namespace Go.Proofs.YtagebkachdmnbaaGreatDoor.Thr
open Go.RowKit Go.Shelf Go.Proofs.YtagebkachdmnbaaGreatDoor.Mem Go.Proofs.YtagebkachdmnbaaGreatDoor.Expr Go.Proofs.YtagebkachdmnbaaGreatDoor.Prog Go.Proofs.YtagebkachdmnbaaGreatDoor.Prs Go.Proofs.YtagebkachdmnbaaGreatDoor.Chk Go.Proofs.YtagebkachdmnbaaGreatDoor.Row Go.Proofs.YtagebkachdmnbaaGreatDoor.Unr Go.Lib
def ttextB:ByteArray:=⟨#[116,104,114,101,97,100,32,123,32,114,48,32,61,32,108,111,97,100,40,120,44,32,97,99,113,41,59,32,105,102,32,40,114,48,32,61,61,32,55,41,32,123,32,114,49,32,61,32,97,100,100,40,121,44,32,114,48,44,32,97,114,41,59,32,125,32,125,32,101,120,105,115,116,115,32,49,59]⟩
theorem ttext_list:ttextB.data.toList=ttext:=by kernel_rfl
theorem eq_u8 (d:Nat) (a b:Int) (W:World):(Op.equalIn (d+1) 5 (.int .u8 a) (.int .u8 b)).run Tryz.prog W = .ok (decide (a=b)) W:=by
  simp [Op.equalIn,run_underlying Tryz.underlying5,Bool.beq_eq_decide_eq]
theorem eq_i64 (d:Nat) (a b:Int) (W:World):(Op.equalIn (d+1) 3 (.int .i64 a) (.int .i64 b)).run Tryz.prog W = .ok (decide (a=b)) W:=by
  simp [Op.equalIn,run_underlying Tryz.underlying3,Bool.beq_eq_decide_eq]
theorem eq_u64 (d:Nat) (a b:Int) (W:World):(Op.equalIn (d+1) 49 (.int .u64 a) (.int .u64 b)).run Tryz.prog W = .ok (decide (a=b)) W:=by
  simp [Op.equalIn,run_underlying Tryz.underlying49,Bool.beq_eq_decide_eq]
theorem structA:Tryz.prog.underlying 57=some (.struct (Tryz.prog.fieldsOf 57)):=by kernel_rfl
theorem heldA:Tryz.prog.stoodInHeld 57=false:=by kernel_rfl
def sameA (x y:Ac):Bool:=decide ((x.kind:Int)=y.kind) && (decide ((x.mode:Int)=y.mode) && (decide (x.loc=y.loc) && (decide (x.a=y.a) && decide (x.b=y.b))))
set_option maxRecDepth 10000 in
theorem eq_ac (x y:Ac) (W:World):(Op.equalIn 10000 57 (acV x) (acV y)).run Tryz.prog W = .ok (sameA x y) W:=by
  obtain ⟨k,m,l,a,b⟩:=x
  obtain ⟨k',m',l',a',b'⟩:=y
  have e1:∀ W,(Op.equalIn 9999 5 (.int .u8 k) (.int .u8 k')).run Tryz.prog W = .ok (decide ((k:Int)=k')) W:=eq_u8 9998 _ _
  have e2:∀ W,(Op.equalIn 9999 5 (.int .u8 m) (.int .u8 m')).run Tryz.prog W = .ok (decide ((m:Int)=m')) W:=eq_u8 9998 _ _
  have e3:∀ W,(Op.equalIn 9999 3 (.int .i64 l) (.int .i64 l')).run Tryz.prog W = .ok (decide (l=l')) W:=eq_i64 9998 _ _
  have e4:∀ W,(Op.equalIn 9999 49 (.int .u64 a) (.int .u64 a')).run Tryz.prog W = .ok (decide (a=a')) W:=eq_u64 9998 _ _
  have e5:∀ W,(Op.equalIn 9999 49 (.int .u64 b) (.int .u64 b')).run Tryz.prog W = .ok (decide (b=b')) W:=eq_u64 9998 _ _
  unfold sameA
  rw [show (10000:Nat)=9999+1 from rfl,run_equalIn_agg W 9999 57 _ _ structA heldA]
  simp only [Program.fieldsOf,Tryz.underlying57]
  have a1:=Tryz.isAgg3
  have z1:=Tryz.sizeOf3
  have a2:=Tryz.isAgg5
  have z2:=Tryz.sizeOf5
  have a3:=Tryz.isAgg49
  have z3:=Tryz.sizeOf49
  generalize decide ((k:Int)=k')=b1 at e1 ⊢
  generalize decide ((m:Int)=m')=b2 at e2 ⊢
  generalize decide (l=l')=b3 at e3 ⊢
  generalize decide (a=a')=b4 at e4 ⊢
  generalize decide (b=b')=b5 at e5 ⊢
  go_simp
  cases b1 <;> cases b2 <;> cases b3 <;> cases b4 <;> cases b5 <;> rfl
theorem eql_ac (x y:Ac) (W:World):(binOp .eql 57 (acV x) (acV y)).run Tryz.prog W = .ok (.bool (sameA x y)) W:=by
  rw [run_eql_struct,eq_ac x y];rfl
theorem thCells_at {n₁:Nat} {w:World}:∀ {l:List Tc} {cs:List Value},ThCells n₁ w l cs->∀ {i:Nat} {x:Tc},l[i]? = some x ->
    ∃ r d,cs[i * 2]? = some (.slice r x.1.length d)/\cs[i * 2+1]? = some (.int .i64 x.2)/\CodV w r x.1/\x.1.length<=d
  | [],_,_,i,x,hx=>by simp at hx
  | y :: l,_,⟨r,d,css,cr,e,h1,h2,_,_⟩,0,x,hx=>by
    simp at hx;subst hx;subst e
    exact ⟨r,d,rfl,rfl,⟨css,h1,h2.1⟩,h2.2⟩
  | y :: l,_,⟨r,d,css,cr,e,_,_,_,h⟩,i+1,x,hx=>by
    obtain ⟨r',d',e1,e2,h3,h4⟩:=thCells_at h (i:=i) (x:=x) (by simpa using hx)
    refine ⟨r',d',?_,?_,h3,h4⟩
    · rw [e,show (i+1) * 2=2+i * 2 by omega,List.getElem?_append_right (by simp)]
      simpa using e1
    · rw [e,show (i+1) * 2+1=2+(i * 2+1) by omega,List.getElem?_append_right (by simp)]
      simpa using e2
theorem ths_at {w:World} {v:Value} {l:List Tc} (h:ThsV w v l) {i:Nat} {x:Tc} (hx:l[i]? = some x) :
    ∃ g o c r d,v = .slice (some ⟨g,o,none⟩) l.length c/\g<w.heap.size/\w.cell? ⟨g,o+i * 2,none⟩=some (.slice r x.1.length d)/\w.cell? ⟨g,o+i * 2+1,none⟩=some (.int .i64 x.2)/\CodV w r x.1/\x.1.length<=d:=by
  obtain ⟨rt,c,cs,rfl,hl,ht⟩:=h
  obtain ⟨r,d,e1,e2,h3,h4⟩:=thCells_at ht hx
  obtain ⟨g,o,e,hlt,hc⟩:=hl _ _ e1
  obtain ⟨g',o',e',_,hc'⟩:=hl _ _ e2
  rw [e] at e'
  injection e' with e';injection e' with e5 e6;subst e5 e6
  exact ⟨g,o,c,r,d,by rw [e],hlt,hc,hc',h3,h4⟩
set_option maxRecDepth 100000 in
set_option maxHeartbeats 4000000 in
theorem wakes_any (w:World) (hX:AllK w):Calls Tryz.prog 8 #[] w fun e w'=>Made (.returned (.bool true)) w e w':=by
  have HM:Hid (Calls Tryz.prog 28 #[.string ⟨#[116,104,114,101,97,100,32,123,32,114,48,32,61,32,108,111,97,100,40,120,44,32,97,99,113,41,59,32,105,102,32,40,114,48,32,61,61,32,55,41,32,123,32,114,49,32,61,32,97,100,100,40,121,44,32,114,48,44,32,97,114,41,59,32,125,32,125,32,101,120,105,115,116,115,32,49,59]⟩,.int .i64 0] w fun e w'=>∃ dt st rs ns ds al va gt ot r d,e = .returned (.tuple #[.agg #[.slice (some ⟨gt,ot,none⟩) 1 dt,.string st,.slice rs ns ds,.bool al,.pointer va],.bool true]) /\
      w'.cell? ⟨gt,ot,none⟩=some (.slice r 3 d)/\w'.cell? ⟨gt,ot+1,none⟩=some (.int .i64 2)/\gt<w'.heap.size/\CodV w' r tcode/\3<=d/\Below w.heap.size w w'):=Lib.hid (by
    refine (made_any ttextB 0 w (by decide) hX).mono fun e w' h=>?_
    obtain ⟨hb,h⟩:=h
    rw [ttext_list,tmade] at h
    obtain ⟨ths,vth,vst,va,hu,he,hv,hst⟩:=h
    rw [tunroll] at hu
    injection hu with hu;subst hu
    obtain ⟨g,o,c,r,d,rfl,hlt,h0,h1,hc,hd⟩:=ths_at hv (i:=0) (x:=(tcode,2)) rfl
    obtain ⟨rs,ns,ds,rfl,_⟩:=startW_slice (t:=ttest) (show startW ttest vst w' from hst)
    exact ⟨_,_,_,_,_,_,_,_,_,_,_,he,h0,h1,hlt,hc,hd,hb⟩)
  have H0:Hid (∀ W r d,CodV W r tcode->Calls Tryz.prog 12 #[.agg #[.slice r 3 d,.int .i64 2]] W (Made (.returned (.agg #[.int .i64 2,.int .u64 0,.int .u64 0,.int .u64 0,.int .u64 0,.int .u64 0,.int .u64 0,.int .u64 0,.int .u64 0])) W)):=Lib.hid (fun W r d h=>by
    have h:=begin_any tcode (by decide) tokI r d 2 W h
    rw [show beginF tcode 2=ts0 from rfl,ts0_V] at h;exact h)
  have H1:Hid (∀ W r d,CodV W r tcode->Calls Tryz.prog 14 #[.agg #[.slice r 3 d,.int .i64 2],.agg #[.int .i64 2,.int .u64 0,.int .u64 0,.int .u64 0,.int .u64 0,.int .u64 0,.int .u64 0,.int .u64 0,.int .u64 0]] W (Made (.returned (.tuple #[.agg #[.int .u8 2,.int .u8 3,.int .i64 0,.int .u64 0,.int .u64 0],.bool true])) W)):=Lib.hid (fun W r d h=>by
    have h:=next_any tcode (by decide) tokI r d 2 ts0 (begin_64 tokI 2) W h
    rw [tnext0,ts0_V] at h;exact h)
  have H2:Hid (∀ W r d,CodV W r tcode->Calls Tryz.prog 21 #[.agg #[.slice r 3 d,.int .i64 2],.agg #[.int .i64 2,.int .u64 0,.int .u64 0,.int .u64 0,.int .u64 0,.int .u64 0,.int .u64 0,.int .u64 0,.int .u64 0],.int .u64 7] W (Made (.returned (.agg #[.int .i64 0,.int .u64 7,.int .u64 0,.int .u64 0,.int .u64 0,.int .u64 0,.int .u64 0,.int .u64 0,.int .u64 0])) W)):=Lib.hid (fun W r d h=>by
    have h:=done_any tcode (by decide) tokI r d 2 ts0 (begin_64 tokI 2) 7 ⟨show (0:Int)<=7 by decide,show (7:Int)<18446744073709551616 by decide⟩ W h
    rw [show doneF tcode ts0 7=ts1 from rfl,ts0_V,ts1_V] at h;exact h)
  have h641:Reg64 ts1.r:=done_64 tokI (begin_64 tokI 2) ⟨show (0:Int)<=7 by decide,show (7:Int)<18446744073709551616 by decide⟩
  have H3:Hid (∀ W r d,CodV W r tcode->Calls Tryz.prog 14 #[.agg #[.slice r 3 d,.int .i64 2],.agg #[.int .i64 0,.int .u64 7,.int .u64 0,.int .u64 0,.int .u64 0,.int .u64 0,.int .u64 0,.int .u64 0,.int .u64 0]] W (Made (.returned (.tuple #[.agg #[.int .u8 5,.int .u8 5,.int .i64 1,.int .u64 7,.int .u64 0],.bool true])) W)):=Lib.hid (fun W r d h=>by
    have h:=next_any tcode (by decide) tokI r d 2 ts1 h641 W h
    rw [tnext1,ts1_V] at h;exact h)
  have H4:Hid (∀ W,Calls Tryz.prog 25 #[.agg #[.int .u8 5,.int .u8 5,.int .i64 1,.int .u64 7,.int .u64 0],.int .u64 3] W (Made (.returned (.tuple #[.int .u64 10,.int .u8 4,.bool true])) W)):=Lib.hid (fun W=>by
    have h:=writes_any tac1 3 (by decide) (by decide) (by decide) W
    rw [twrites] at h;exact h)
  have H5:Hid (∀ W,Calls Tryz.prog 23 #[.agg #[.int .u8 5,.int .u8 5,.int .i64 1,.int .u64 7,.int .u64 0]] W (Made (.returned (.tuple #[.int .u8 3,.bool true])) W)):=Lib.hid (fun W=>by
    have h:=reads_any tac1 W
    rw [treads] at h;exact h)
  have H6:Hid (∀ W r d,CodV W r tcode->Calls Tryz.prog 21 #[.agg #[.slice r 3 d,.int .i64 2],.agg #[.int .i64 0,.int .u64 7,.int .u64 0,.int .u64 0,.int .u64 0,.int .u64 0,.int .u64 0,.int .u64 0,.int .u64 0],.int .u64 3] W (Made (.returned (.agg #[.int .i64 (-1),.int .u64 7,.int .u64 3,.int .u64 0,.int .u64 0,.int .u64 0,.int .u64 0,.int .u64 0,.int .u64 0])) W)):=Lib.hid (fun W r d h=>by
    have h:=done_any tcode (by decide) tokI r d 2 ts1 h641 3 ⟨show (0:Int)<=3 by decide,show (3:Int)<18446744073709551616 by decide⟩ W h
    rw [show doneF tcode ts1 3=ts2 from rfl,ts1_V,ts2_V] at h;exact h)
  have H7:Hid (∀ W,Calls Tryz.prog 27 #[.agg #[.int .u8 5,.int .u8 5,.int .i64 1,.int .u64 7,.int .u64 0]] W (Made (.returned (.bool true)) W)):=Lib.hid (fun W=>update_any tac1 W)
  have H8:Hid (∀ W r d,Calls Tryz.prog 20 #[.agg #[.slice r 3 d,.int .i64 2],.agg #[.int .i64 (-1),.int .u64 7,.int .u64 3,.int .u64 0,.int .u64 0,.int .u64 0,.int .u64 0,.int .u64 0,.int .u64 0]] W (Made (.returned (.bool true)) W)):=Lib.hid (fun W r d=>by
    have h:=ended_any r 3 d 2 ts2 W
    rw [show endF 3 ts2.at_=true from tend,ts2_V] at h;exact h)
  have H9:Hid (∀ W r d,3<=d->CodV W r tcode->Calls Tryz.prog 18 #[.agg #[.slice r 3 d,.int .i64 2],.int .i64 2] W (Made (.returned (.int .i64 1)) W)):=Lib.hid (fun W r d hd h=>by
    have h:=Most_any tcode (by decide) r d hd 2 2 W h
    rw [tmost] at h;exact h)
  have H10:Hid (∀ W r d,3<=d->CodV W r tcode->Calls Tryz.prog 19 #[.agg #[.slice r 3 d,.int .i64 2],.int .i64 2] W (Made (.returned (.bool true)) W)):=Lib.hid (fun W r d hd h=>by
    have h:=Updates_any tcode (by decide) r d hd 2 2 W h
    rw [tmostU] at h;exact h)
  clear hX h641
  go_enter Tryz.func8,Tryz.ntmps8
  go_wp2_with fail
  refine HM.out.mono ?_
  rintro e w1 ⟨dt,st,rs,ns,ds,al,va,gt,ot,r,d,rfl,h0,h1,hlt,hc,hd,hb⟩
  have HC:=Lib.hid hc
  have HBW:=Lib.hid hb
  have HB:=Lib.hid (Below.refl w1.heap.size w1)
  have HD:=Lib.hid hd
  clear hc hb hd HM
  go_upto_region 5 with (fail)
  clear h0 h1 hlt
  have HB2:=Lib.hid (two_low w1 (.cells #[.slice (some ⟨gt,ot,none⟩) 1 dt,.string st,.slice rs ns ds,.bool al,.pointer va] 33) (.cells #[.slice r 3 d,.int .i64 2] 44))
  have PG:Hid (Sits ((w1.alloc (.cells #[.slice (some ⟨gt,ot,none⟩) 1 dt,.string st,.slice rs ns ds,.bool al,.pointer va] 33)).alloc (.cells #[.slice r 3 d,.int .i64 2] 44)) (w1.heap.size) 33 #[.slice (some ⟨gt,ot,none⟩) 1 dt,.string st,.slice rs ns ds,.bool al,.pointer va]):=Lib.hid ((Sits.made (by simp) _ _).alloc _)
  have T3:Hid (Sits ((w1.alloc (.cells #[.slice (some ⟨gt,ot,none⟩) 1 dt,.string st,.slice rs ns ds,.bool al,.pointer va] 33)).alloc (.cells #[.slice r 3 d,.int .i64 2] 44)) (w1.heap.size+1) 44 #[.slice r 3 d,.int .i64 2]):=Lib.hid (Sits.made (by simp) _ _)
  have hgPG:w1.heap.size<=w1.heap.size:=by have:=HB.out.size;omega
  have hgT3:w1.heap.size<=w1.heap.size+1:=by have:=HB.out.size;omega
  have HB:=Lib.hid (HB.out.trans (HB2.out.mono HB.out.size))
  change Code.wp _ _ _ _ ((w1.alloc (.cells #[.slice (some ⟨gt,ot,none⟩) 1 dt,.string st,.slice rs ns ds,.bool al,.pointer va] 33)).alloc (.cells #[.slice r 3 d,.int .i64 2] 44))
  generalize ((w1.alloc (.cells #[.slice (some ⟨gt,ot,none⟩) 1 dt,.string st,.slice rs ns ds,.bool al,.pointer va] 33)).alloc (.cells #[.slice r 3 d,.int .i64 2] 44))=w2 at HB2 HB PG T3  ⊢
  generalize w1.heap.size+1=gT3 at T3 hgT3 ⊢
  generalize w1.heap.size=gPG at PG hgPG ⊢
  clear HB2 
  have _PGc0:=PG.out.cell 0
  have _PGc1:=PG.out.cell 1
  have _PGl:=PG.out.lt
  have T3c0:=T3.out.cell 0
  have T3c1:=T3.out.cell 1
  have T3l:=T3.out.lt
  go_wp2_with fail
  refine (H0.out _ r d (HC.out.below HB.out)).mono ?_
  rintro e w3 ⟨rfl,hb⟩
  have HB:=Lib.hid (HB.out.trans (hb.mono HB.out.size))
  have T3:=Lib.hid (T3.out.below hb T3.out.lt)
  clear hb T3c0 T3c1 T3l
  have T3c0:=T3.out.cell 0
  have T3c1:=T3.out.cell 1
  have T3l:=T3.out.lt
  go_upto_region 6 with (fail)
  have HB2:=Lib.hid (one_low w3 (.cells #[.int .i64 2,.int .u64 0,.int .u64 0,.int .u64 0,.int .u64 0,.int .u64 0,.int .u64 0,.int .u64 0,.int .u64 0] 52))
  have S4:Hid (Sits (w3.alloc (.cells #[.int .i64 2,.int .u64 0,.int .u64 0,.int .u64 0,.int .u64 0,.int .u64 0,.int .u64 0,.int .u64 0,.int .u64 0] 52)) (w3.heap.size) 52 #[.int .i64 2,.int .u64 0,.int .u64 0,.int .u64 0,.int .u64 0,.int .u64 0,.int .u64 0,.int .u64 0,.int .u64 0]):=Lib.hid (Sits.made (by simp) _ _)
  have hgS4:w1.heap.size<=w3.heap.size:=by have:=HB.out.size;omega
  have HB:=Lib.hid (HB.out.trans (HB2.out.mono HB.out.size))
  have T3:=Lib.hid (T3.out.below HB2.out T3.out.lt)
  change Code.wp _ _ _ _ (w3.alloc (.cells #[.int .i64 2,.int .u64 0,.int .u64 0,.int .u64 0,.int .u64 0,.int .u64 0,.int .u64 0,.int .u64 0,.int .u64 0] 52))
  generalize (w3.alloc (.cells #[.int .i64 2,.int .u64 0,.int .u64 0,.int .u64 0,.int .u64 0,.int .u64 0,.int .u64 0,.int .u64 0,.int .u64 0] 52))=w4 at HB2 HB S4 T3 ⊢
  generalize w3.heap.size=gS4 at S4 hgS4 ⊢
  clear HB2 T3c0 T3c1 T3l
  have T3c0:=T3.out.cell 0
  have T3c1:=T3.out.cell 1
  have T3l:=T3.out.lt
  have S4c0:=S4.out.cell 0
  have S4c1:=S4.out.cell 1
  have S4c2:=S4.out.cell 2
  have S4c3:=S4.out.cell 3
  have S4c4:=S4.out.cell 4
  have S4c5:=S4.out.cell 5
  have S4c6:=S4.out.cell 6
  have S4c7:=S4.out.cell 7
  have S4c8:=S4.out.cell 8
  have S4l:=S4.out.lt
  go_wp2_with fail
  refine (H1.out _ r d (HC.out.below HB.out)).mono ?_
  rintro e w5 ⟨rfl,hb⟩
  have HB:=Lib.hid (HB.out.trans (hb.mono HB.out.size))
  have T3:=Lib.hid (T3.out.below hb T3.out.lt)
  have S4:=Lib.hid (S4.out.below hb S4.out.lt)
  clear hb T3c0 T3c1 T3l S4c0 S4c1 S4c2 S4c3 S4c4 S4c5 S4c6 S4c7 S4c8 S4l
  have T3c0:=T3.out.cell 0
  have T3c1:=T3.out.cell 1
  have T3l:=T3.out.lt
  have S4c0:=S4.out.cell 0
  have S4c1:=S4.out.cell 1
  have S4c2:=S4.out.cell 2
  have S4c3:=S4.out.cell 3
  have S4c4:=S4.out.cell 4
  have S4c5:=S4.out.cell 5
  have S4c6:=S4.out.cell 6
  have S4c7:=S4.out.cell 7
  have S4c8:=S4.out.cell 8
  have S4l:=S4.out.lt
  go_upto_region 7 with (fail)
  have HB2:=Lib.hid (one_low w5 (.cells #[.int .u8 2,.int .u8 3,.int .i64 0,.int .u64 0,.int .u64 0] 57))
  have A5:Hid (Sits (w5.alloc (.cells #[.int .u8 2,.int .u8 3,.int .i64 0,.int .u64 0,.int .u64 0] 57)) (w5.heap.size) 57 #[.int .u8 2,.int .u8 3,.int .i64 0,.int .u64 0,.int .u64 0]):=Lib.hid (Sits.made (by simp) _ _)
  have hgA5:w1.heap.size<=w5.heap.size:=by have:=HB.out.size;omega
  have HB:=Lib.hid (HB.out.trans (HB2.out.mono HB.out.size))
  have T3:=Lib.hid (T3.out.below HB2.out T3.out.lt)
  have S4:=Lib.hid (S4.out.below HB2.out S4.out.lt)
  change Code.wp _ _ _ _ (w5.alloc (.cells #[.int .u8 2,.int .u8 3,.int .i64 0,.int .u64 0,.int .u64 0] 57))
  generalize (w5.alloc (.cells #[.int .u8 2,.int .u8 3,.int .i64 0,.int .u64 0,.int .u64 0] 57))=w6 at HB2 HB A5 T3 S4 ⊢
  generalize w5.heap.size=gA5 at A5 hgA5 ⊢
  clear HB2 T3c0 T3c1 T3l S4c0 S4c1 S4c2 S4c3 S4c4 S4c5 S4c6 S4c7 S4c8 S4l
  have T3c0:=T3.out.cell 0
  have T3c1:=T3.out.cell 1
  have T3l:=T3.out.lt
  have S4c0:=S4.out.cell 0
  have S4c1:=S4.out.cell 1
  have S4c2:=S4.out.cell 2
  have S4c3:=S4.out.cell 3
  have S4c4:=S4.out.cell 4
  have S4c5:=S4.out.cell 5
  have S4c6:=S4.out.cell 6
  have S4c7:=S4.out.cell 7
  have S4c8:=S4.out.cell 8
  have S4l:=S4.out.lt
  have A5c0:=A5.out.cell 0
  have A5c1:=A5.out.cell 1
  have A5c2:=A5.out.cell 2
  have A5c3:=A5.out.cell 3
  have A5c4:=A5.out.cell 4
  have A5l:=A5.out.lt
  go_wp2_with fail
  refine (H2.out _ r d (HC.out.below HB.out)).mono ?_
  rintro e w7 ⟨rfl,hb⟩
  have HB:=Lib.hid (HB.out.trans (hb.mono HB.out.size))
  have T3:=Lib.hid (T3.out.below hb T3.out.lt)
  have S4:=Lib.hid (S4.out.below hb S4.out.lt)
  have A5:=Lib.hid (A5.out.below hb A5.out.lt)
  clear hb T3c0 T3c1 T3l S4c0 S4c1 S4c2 S4c3 S4c4 S4c5 S4c6 S4c7 S4c8 S4l A5c0 A5c1 A5c2 A5c3 A5c4 A5l
  have T3c0:=T3.out.cell 0
  have T3c1:=T3.out.cell 1
  have T3l:=T3.out.lt
  have S4c0:=S4.out.cell 0
  have S4c1:=S4.out.cell 1
  have S4c2:=S4.out.cell 2
  have S4c3:=S4.out.cell 3
  have S4c4:=S4.out.cell 4
  have S4c5:=S4.out.cell 5
  have S4c6:=S4.out.cell 6
  have S4c7:=S4.out.cell 7
  have S4c8:=S4.out.cell 8
  have S4l:=S4.out.lt
  have A5c0:=A5.out.cell 0
  have A5c1:=A5.out.cell 1
  have A5c2:=A5.out.cell 2
  have A5c3:=A5.out.cell 3
  have A5c4:=A5.out.cell 4
  have A5l:=A5.out.lt
  go_upto_region 8 with (refine wpList_store_row rfl 52 _ _ rfl gS4 #[.int .i64 0,.int .u64 7,.int .u64 0,.int .u64 0,.int .u64 0,.int .u64 0,.int .u64 0,.int .u64 0,.int .u64 0] rfl rfl 52 _ S4.out stSize rfl (by simp [Value.oneCell']) ?_)
  have T3:=Lib.hid ((setRow_other w7 gS4 _ #[.int .i64 0,.int .u64 7,.int .u64 0,.int .u64 0,.int .u64 0,.int .u64 0,.int .u64 0,.int .u64 0,.int .u64 0] (T3.out.differ S4.out (by decide))).trans T3.out)
  have A5:=Lib.hid ((setRow_other w7 gS4 _ #[.int .i64 0,.int .u64 7,.int .u64 0,.int .u64 0,.int .u64 0,.int .u64 0,.int .u64 0,.int .u64 0,.int .u64 0] (A5.out.differ S4.out (by decide))).trans A5.out)
  have HB:=Lib.hid (row_low' HB.out hgS4 #[.int .i64 0,.int .u64 7,.int .u64 0,.int .u64 0,.int .u64 0,.int .u64 0,.int .u64 0,.int .u64 0,.int .u64 0])
  have S4:=Lib.hid (setRow_heap w7 _ _ #[.int .i64 0,.int .u64 7,.int .u64 0,.int .u64 0,.int .u64 0,.int .u64 0,.int .u64 0,.int .u64 0,.int .u64 0] _ _ S4.out)
  generalize w7.setRow gS4 #[.int .i64 0,.int .u64 7,.int .u64 0,.int .u64 0,.int .u64 0,.int .u64 0,.int .u64 0,.int .u64 0,.int .u64 0]=w8 at HB T3 S4 A5 ⊢
  clear T3c0 T3c1 T3l S4c0 S4c1 S4c2 S4c3 S4c4 S4c5 S4c6 S4c7 S4c8 S4l A5c0 A5c1 A5c2 A5c3 A5c4 A5l
  have T3:Hid (Sits w8 gT3 44 #[.slice r 3 d,.int .i64 2]):=T3
  have S4:Hid (Sits w8 gS4 52 #[.int .i64 0,.int .u64 7,.int .u64 0,.int .u64 0,.int .u64 0,.int .u64 0,.int .u64 0,.int .u64 0,.int .u64 0]):=S4
  have A5:Hid (Sits w8 gA5 57 #[.int .u8 2,.int .u8 3,.int .i64 0,.int .u64 0,.int .u64 0]):=A5
  have T3c0:=T3.out.cell 0
  have T3c1:=T3.out.cell 1
  have T3l:=T3.out.lt
  have S4c0:=S4.out.cell 0
  have S4c1:=S4.out.cell 1
  have S4c2:=S4.out.cell 2
  have S4c3:=S4.out.cell 3
  have S4c4:=S4.out.cell 4
  have S4c5:=S4.out.cell 5
  have S4c6:=S4.out.cell 6
  have S4c7:=S4.out.cell 7
  have S4c8:=S4.out.cell 8
  have S4l:=S4.out.lt
  have A5c0:=A5.out.cell 0
  have A5c1:=A5.out.cell 1
  have A5c2:=A5.out.cell 2
  have A5c3:=A5.out.cell 3
  have A5c4:=A5.out.cell 4
  have A5l:=A5.out.lt
  go_wp2_with fail
  refine (H3.out _ r d (HC.out.below HB.out)).mono ?_
  rintro e w9 ⟨rfl,hb⟩
  have HB:=Lib.hid (HB.out.trans (hb.mono HB.out.size))
  have T3:=Lib.hid (T3.out.below hb T3.out.lt)
  have S4:=Lib.hid (S4.out.below hb S4.out.lt)
  have A5:=Lib.hid (A5.out.below hb A5.out.lt)
  clear hb T3c0 T3c1 T3l S4c0 S4c1 S4c2 S4c3 S4c4 S4c5 S4c6 S4c7 S4c8 S4l A5c0 A5c1 A5c2 A5c3 A5c4 A5l
  have T3c0:=T3.out.cell 0
  have T3c1:=T3.out.cell 1
  have T3l:=T3.out.lt
  have S4c0:=S4.out.cell 0
  have S4c1:=S4.out.cell 1
  have S4c2:=S4.out.cell 2
  have S4c3:=S4.out.cell 3
  have S4c4:=S4.out.cell 4
  have S4c5:=S4.out.cell 5
  have S4c6:=S4.out.cell 6
  have S4c7:=S4.out.cell 7
  have S4c8:=S4.out.cell 8
  have S4l:=S4.out.lt
  have A5c0:=A5.out.cell 0
  have A5c1:=A5.out.cell 1
  have A5c2:=A5.out.cell 2
  have A5c3:=A5.out.cell 3
  have A5c4:=A5.out.cell 4
  have A5l:=A5.out.lt
  go_upto_region 9 with (fail)
  have HB2:=Lib.hid (one_low w9 (.cells #[.int .u8 5,.int .u8 5,.int .i64 1,.int .u64 7,.int .u64 0] 57))
  have A7:Hid (Sits (w9.alloc (.cells #[.int .u8 5,.int .u8 5,.int .i64 1,.int .u64 7,.int .u64 0] 57)) (w9.heap.size) 57 #[.int .u8 5,.int .u8 5,.int .i64 1,.int .u64 7,.int .u64 0]):=Lib.hid (Sits.made (by simp) _ _)
  have hgA7:w1.heap.size<=w9.heap.size:=by have:=HB.out.size;omega
  have HB:=Lib.hid (HB.out.trans (HB2.out.mono HB.out.size))
  have T3:=Lib.hid (T3.out.below HB2.out T3.out.lt)
  have S4:=Lib.hid (S4.out.below HB2.out S4.out.lt)
  have A5:=Lib.hid (A5.out.below HB2.out A5.out.lt)
  change Code.wp _ _ _ _ (w9.alloc (.cells #[.int .u8 5,.int .u8 5,.int .i64 1,.int .u64 7,.int .u64 0] 57))
  generalize (w9.alloc (.cells #[.int .u8 5,.int .u8 5,.int .i64 1,.int .u64 7,.int .u64 0] 57))=w10 at HB2 HB A7 T3 S4 A5 ⊢
  generalize w9.heap.size=gA7 at A7 hgA7 ⊢
  clear HB2 T3c0 T3c1 T3l S4c0 S4c1 S4c2 S4c3 S4c4 S4c5 S4c6 S4c7 S4c8 S4l A5c0 A5c1 A5c2 A5c3 A5c4 A5l
  have T3c0:=T3.out.cell 0
  have T3c1:=T3.out.cell 1
  have T3l:=T3.out.lt
  have S4c0:=S4.out.cell 0
  have S4c1:=S4.out.cell 1
  have S4c2:=S4.out.cell 2
  have S4c3:=S4.out.cell 3
  have S4c4:=S4.out.cell 4
  have S4c5:=S4.out.cell 5
  have S4c6:=S4.out.cell 6
  have S4c7:=S4.out.cell 7
  have S4c8:=S4.out.cell 8
  have S4l:=S4.out.lt
  have A5c0:=A5.out.cell 0
  have A5c1:=A5.out.cell 1
  have A5c2:=A5.out.cell 2
  have A5c3:=A5.out.cell 3
  have A5c4:=A5.out.cell 4
  have A5l:=A5.out.lt
  have A7c0:=A7.out.cell 0
  have A7c1:=A7.out.cell 1
  have A7c2:=A7.out.cell 2
  have A7c3:=A7.out.cell 3
  have A7c4:=A7.out.cell 4
  have A7l:=A7.out.lt
  go_wp2_with fail
  refine (H4.out _).mono ?_
  rintro e w11 ⟨rfl,hb⟩
  have HB:=Lib.hid (HB.out.trans (hb.mono HB.out.size))
  have T3:=Lib.hid (T3.out.below hb T3.out.lt)
  have S4:=Lib.hid (S4.out.below hb S4.out.lt)
  have A5:=Lib.hid (A5.out.below hb A5.out.lt)
  have A7:=Lib.hid (A7.out.below hb A7.out.lt)
  clear hb T3c0 T3c1 T3l S4c0 S4c1 S4c2 S4c3 S4c4 S4c5 S4c6 S4c7 S4c8 S4l A5c0 A5c1 A5c2 A5c3 A5c4 A5l A7c0 A7c1 A7c2 A7c3 A7c4 A7l
  have T3c0:=T3.out.cell 0
  have T3c1:=T3.out.cell 1
  have T3l:=T3.out.lt
  have S4c0:=S4.out.cell 0
  have S4c1:=S4.out.cell 1
  have S4c2:=S4.out.cell 2
  have S4c3:=S4.out.cell 3
  have S4c4:=S4.out.cell 4
  have S4c5:=S4.out.cell 5
  have S4c6:=S4.out.cell 6
  have S4c7:=S4.out.cell 7
  have S4c8:=S4.out.cell 8
  have S4l:=S4.out.lt
  have A5c0:=A5.out.cell 0
  have A5c1:=A5.out.cell 1
  have A5c2:=A5.out.cell 2
  have A5c3:=A5.out.cell 3
  have A5c4:=A5.out.cell 4
  have A5l:=A5.out.lt
  have A7c0:=A7.out.cell 0
  have A7c1:=A7.out.cell 1
  have A7c2:=A7.out.cell 2
  have A7c3:=A7.out.cell 3
  have A7c4:=A7.out.cell 4
  have A7l:=A7.out.lt
  go_upto_region 10 with (fail)
  go_wp2_with fail
  refine (H5.out _).mono ?_
  rintro e w12 ⟨rfl,hb⟩
  have HB:=Lib.hid (HB.out.trans (hb.mono HB.out.size))
  have T3:=Lib.hid (T3.out.below hb T3.out.lt)
  have S4:=Lib.hid (S4.out.below hb S4.out.lt)
  have A5:=Lib.hid (A5.out.below hb A5.out.lt)
  have A7:=Lib.hid (A7.out.below hb A7.out.lt)
  clear hb T3c0 T3c1 T3l S4c0 S4c1 S4c2 S4c3 S4c4 S4c5 S4c6 S4c7 S4c8 S4l A5c0 A5c1 A5c2 A5c3 A5c4 A5l A7c0 A7c1 A7c2 A7c3 A7c4 A7l
  have T3c0:=T3.out.cell 0
  have T3c1:=T3.out.cell 1
  have T3l:=T3.out.lt
  have S4c0:=S4.out.cell 0
  have S4c1:=S4.out.cell 1
  have S4c2:=S4.out.cell 2
  have S4c3:=S4.out.cell 3
  have S4c4:=S4.out.cell 4
  have S4c5:=S4.out.cell 5
  have S4c6:=S4.out.cell 6
  have S4c7:=S4.out.cell 7
  have S4c8:=S4.out.cell 8
  have S4l:=S4.out.lt
  have A5c0:=A5.out.cell 0
  have A5c1:=A5.out.cell 1
  have A5c2:=A5.out.cell 2
  have A5c3:=A5.out.cell 3
  have A5c4:=A5.out.cell 4
  have A5l:=A5.out.lt
  have A7c0:=A7.out.cell 0
  have A7c1:=A7.out.cell 1
  have A7c2:=A7.out.cell 2
  have A7c3:=A7.out.cell 3
  have A7c4:=A7.out.cell 4
  have A7l:=A7.out.lt
  go_upto_region 11 with (fail)
  go_wp2_with fail
  refine (H6.out _ r d (HC.out.below HB.out)).mono ?_
  rintro e w13 ⟨rfl,hb⟩
  have HB:=Lib.hid (HB.out.trans (hb.mono HB.out.size))
  have T3:=Lib.hid (T3.out.below hb T3.out.lt)
  have S4:=Lib.hid (S4.out.below hb S4.out.lt)
  have A5:=Lib.hid (A5.out.below hb A5.out.lt)
  have A7:=Lib.hid (A7.out.below hb A7.out.lt)
  clear hb T3c0 T3c1 T3l S4c0 S4c1 S4c2 S4c3 S4c4 S4c5 S4c6 S4c7 S4c8 S4l A5c0 A5c1 A5c2 A5c3 A5c4 A5l A7c0 A7c1 A7c2 A7c3 A7c4 A7l
  have T3c0:=T3.out.cell 0
  have T3c1:=T3.out.cell 1
  have T3l:=T3.out.lt
  have S4c0:=S4.out.cell 0
  have S4c1:=S4.out.cell 1
  have S4c2:=S4.out.cell 2
  have S4c3:=S4.out.cell 3
  have S4c4:=S4.out.cell 4
  have S4c5:=S4.out.cell 5
  have S4c6:=S4.out.cell 6
  have S4c7:=S4.out.cell 7
  have S4c8:=S4.out.cell 8
  have S4l:=S4.out.lt
  have A5c0:=A5.out.cell 0
  have A5c1:=A5.out.cell 1
  have A5c2:=A5.out.cell 2
  have A5c3:=A5.out.cell 3
  have A5c4:=A5.out.cell 4
  have A5l:=A5.out.lt
  have A7c0:=A7.out.cell 0
  have A7c1:=A7.out.cell 1
  have A7c2:=A7.out.cell 2
  have A7c3:=A7.out.cell 3
  have A7c4:=A7.out.cell 4
  have A7l:=A7.out.lt
  go_upto_region 12 with (fail)
  have HB2:=Lib.hid (one_low w13 (.cells #[.int .i64 (-1),.int .u64 7,.int .u64 3,.int .u64 0,.int .u64 0,.int .u64 0,.int .u64 0,.int .u64 0,.int .u64 0] 52))
  have S14:Hid (Sits (w13.alloc (.cells #[.int .i64 (-1),.int .u64 7,.int .u64 3,.int .u64 0,.int .u64 0,.int .u64 0,.int .u64 0,.int .u64 0,.int .u64 0] 52)) (w13.heap.size) 52 #[.int .i64 (-1),.int .u64 7,.int .u64 3,.int .u64 0,.int .u64 0,.int .u64 0,.int .u64 0,.int .u64 0,.int .u64 0]):=Lib.hid (Sits.made (by simp) _ _)
  have hgS14:w1.heap.size<=w13.heap.size:=by have:=HB.out.size;omega
  have HB:=Lib.hid (HB.out.trans (HB2.out.mono HB.out.size))
  have T3:=Lib.hid (T3.out.below HB2.out T3.out.lt)
  have S4:=Lib.hid (S4.out.below HB2.out S4.out.lt)
  have A5:=Lib.hid (A5.out.below HB2.out A5.out.lt)
  have A7:=Lib.hid (A7.out.below HB2.out A7.out.lt)
  change Code.wp _ _ _ _ (w13.alloc (.cells #[.int .i64 (-1),.int .u64 7,.int .u64 3,.int .u64 0,.int .u64 0,.int .u64 0,.int .u64 0,.int .u64 0,.int .u64 0] 52))
  generalize (w13.alloc (.cells #[.int .i64 (-1),.int .u64 7,.int .u64 3,.int .u64 0,.int .u64 0,.int .u64 0,.int .u64 0,.int .u64 0,.int .u64 0] 52))=w14 at HB2 HB S14 T3 S4 A5 A7 ⊢
  generalize w13.heap.size=gS14 at S14 hgS14 ⊢
  clear HB2 T3c0 T3c1 T3l S4c0 S4c1 S4c2 S4c3 S4c4 S4c5 S4c6 S4c7 S4c8 S4l A5c0 A5c1 A5c2 A5c3 A5c4 A5l A7c0 A7c1 A7c2 A7c3 A7c4 A7l
  have T3c0:=T3.out.cell 0
  have T3c1:=T3.out.cell 1
  have T3l:=T3.out.lt
  have S4c0:=S4.out.cell 0
  have S4c1:=S4.out.cell 1
  have S4c2:=S4.out.cell 2
  have S4c3:=S4.out.cell 3
  have S4c4:=S4.out.cell 4
  have S4c5:=S4.out.cell 5
  have S4c6:=S4.out.cell 6
  have S4c7:=S4.out.cell 7
  have S4c8:=S4.out.cell 8
  have S4l:=S4.out.lt
  have A5c0:=A5.out.cell 0
  have A5c1:=A5.out.cell 1
  have A5c2:=A5.out.cell 2
  have A5c3:=A5.out.cell 3
  have A5c4:=A5.out.cell 4
  have A5l:=A5.out.lt
  have A7c0:=A7.out.cell 0
  have A7c1:=A7.out.cell 1
  have A7c2:=A7.out.cell 2
  have A7c3:=A7.out.cell 3
  have A7c4:=A7.out.cell 4
  have A7l:=A7.out.lt
  have S14c0:=S14.out.cell 0
  have S14c1:=S14.out.cell 1
  have S14c2:=S14.out.cell 2
  have S14c3:=S14.out.cell 3
  have S14c4:=S14.out.cell 4
  have S14c5:=S14.out.cell 5
  have S14c6:=S14.out.cell 6
  have S14c7:=S14.out.cell 7
  have S14c8:=S14.out.cell 8
  have S14l:=S14.out.lt
  have HEQ:=fun W=>eql_ac ⟨2,3,0,0,0⟩ ⟨2,3,0,0,0⟩ W
  go_wp2_with fail
  refine (H7.out _).mono ?_
  rintro e w15 ⟨rfl,hb⟩
  have HB:=Lib.hid (HB.out.trans (hb.mono HB.out.size))
  have T3:=Lib.hid (T3.out.below hb T3.out.lt)
  have S4:=Lib.hid (S4.out.below hb S4.out.lt)
  have A5:=Lib.hid (A5.out.below hb A5.out.lt)
  have A7:=Lib.hid (A7.out.below hb A7.out.lt)
  have S14:=Lib.hid (S14.out.below hb S14.out.lt)
  clear hb T3c0 T3c1 T3l S4c0 S4c1 S4c2 S4c3 S4c4 S4c5 S4c6 S4c7 S4c8 S4l A5c0 A5c1 A5c2 A5c3 A5c4 A5l A7c0 A7c1 A7c2 A7c3 A7c4 A7l S14c0 S14c1 S14c2 S14c3 S14c4 S14c5 S14c6 S14c7 S14c8 S14l
  have T3c0:=T3.out.cell 0
  have T3c1:=T3.out.cell 1
  have T3l:=T3.out.lt
  have S4c0:=S4.out.cell 0
  have S4c1:=S4.out.cell 1
  have S4c2:=S4.out.cell 2
  have S4c3:=S4.out.cell 3
  have S4c4:=S4.out.cell 4
  have S4c5:=S4.out.cell 5
  have S4c6:=S4.out.cell 6
  have S4c7:=S4.out.cell 7
  have S4c8:=S4.out.cell 8
  have S4l:=S4.out.lt
  have A5c0:=A5.out.cell 0
  have A5c1:=A5.out.cell 1
  have A5c2:=A5.out.cell 2
  have A5c3:=A5.out.cell 3
  have A5c4:=A5.out.cell 4
  have A5l:=A5.out.lt
  have A7c0:=A7.out.cell 0
  have A7c1:=A7.out.cell 1
  have A7c2:=A7.out.cell 2
  have A7c3:=A7.out.cell 3
  have A7c4:=A7.out.cell 4
  have A7l:=A7.out.lt
  have S14c0:=S14.out.cell 0
  have S14c1:=S14.out.cell 1
  have S14c2:=S14.out.cell 2
  have S14c3:=S14.out.cell 3
  have S14c4:=S14.out.cell 4
  have S14c5:=S14.out.cell 5
  have S14c6:=S14.out.cell 6
  have S14c7:=S14.out.cell 7
  have S14c8:=S14.out.cell 8
  have S14l:=S14.out.lt
  go_wp2_with fail
  refine (H8.out _ r d).mono ?_
  rintro e w16 ⟨rfl,hb⟩
  have HB:=Lib.hid (HB.out.trans (hb.mono HB.out.size))
  have T3:=Lib.hid (T3.out.below hb T3.out.lt)
  have S4:=Lib.hid (S4.out.below hb S4.out.lt)
  have A5:=Lib.hid (A5.out.below hb A5.out.lt)
  have A7:=Lib.hid (A7.out.below hb A7.out.lt)
  have S14:=Lib.hid (S14.out.below hb S14.out.lt)
  clear hb T3c0 T3c1 T3l S4c0 S4c1 S4c2 S4c3 S4c4 S4c5 S4c6 S4c7 S4c8 S4l A5c0 A5c1 A5c2 A5c3 A5c4 A5l A7c0 A7c1 A7c2 A7c3 A7c4 A7l S14c0 S14c1 S14c2 S14c3 S14c4 S14c5 S14c6 S14c7 S14c8 S14l
  have T3c0:=T3.out.cell 0
  have T3c1:=T3.out.cell 1
  have T3l:=T3.out.lt
  have S4c0:=S4.out.cell 0
  have S4c1:=S4.out.cell 1
  have S4c2:=S4.out.cell 2
  have S4c3:=S4.out.cell 3
  have S4c4:=S4.out.cell 4
  have S4c5:=S4.out.cell 5
  have S4c6:=S4.out.cell 6
  have S4c7:=S4.out.cell 7
  have S4c8:=S4.out.cell 8
  have S4l:=S4.out.lt
  have A5c0:=A5.out.cell 0
  have A5c1:=A5.out.cell 1
  have A5c2:=A5.out.cell 2
  have A5c3:=A5.out.cell 3
  have A5c4:=A5.out.cell 4
  have A5l:=A5.out.lt
  have A7c0:=A7.out.cell 0
  have A7c1:=A7.out.cell 1
  have A7c2:=A7.out.cell 2
  have A7c3:=A7.out.cell 3
  have A7c4:=A7.out.cell 4
  have A7l:=A7.out.lt
  have S14c0:=S14.out.cell 0
  have S14c1:=S14.out.cell 1
  have S14c2:=S14.out.cell 2
  have S14c3:=S14.out.cell 3
  have S14c4:=S14.out.cell 4
  have S14c5:=S14.out.cell 5
  have S14c6:=S14.out.cell 6
  have S14c7:=S14.out.cell 7
  have S14c8:=S14.out.cell 8
  have S14l:=S14.out.lt
  go_wp2_with fail
  refine (H9.out _ r d HD.out (HC.out.below HB.out)).mono ?_
  rintro e w17 ⟨rfl,hb⟩
  have HB:=Lib.hid (HB.out.trans (hb.mono HB.out.size))
  have T3:=Lib.hid (T3.out.below hb T3.out.lt)
  have S4:=Lib.hid (S4.out.below hb S4.out.lt)
  have A5:=Lib.hid (A5.out.below hb A5.out.lt)
  have A7:=Lib.hid (A7.out.below hb A7.out.lt)
  have S14:=Lib.hid (S14.out.below hb S14.out.lt)
  clear hb T3c0 T3c1 T3l S4c0 S4c1 S4c2 S4c3 S4c4 S4c5 S4c6 S4c7 S4c8 S4l A5c0 A5c1 A5c2 A5c3 A5c4 A5l A7c0 A7c1 A7c2 A7c3 A7c4 A7l S14c0 S14c1 S14c2 S14c3 S14c4 S14c5 S14c6 S14c7 S14c8 S14l
  have T3c0:=T3.out.cell 0
  have T3c1:=T3.out.cell 1
  have T3l:=T3.out.lt
  have S4c0:=S4.out.cell 0
  have S4c1:=S4.out.cell 1
  have S4c2:=S4.out.cell 2
  have S4c3:=S4.out.cell 3
  have S4c4:=S4.out.cell 4
  have S4c5:=S4.out.cell 5
  have S4c6:=S4.out.cell 6
  have S4c7:=S4.out.cell 7
  have S4c8:=S4.out.cell 8
  have S4l:=S4.out.lt
  have A5c0:=A5.out.cell 0
  have A5c1:=A5.out.cell 1
  have A5c2:=A5.out.cell 2
  have A5c3:=A5.out.cell 3
  have A5c4:=A5.out.cell 4
  have A5l:=A5.out.lt
  have A7c0:=A7.out.cell 0
  have A7c1:=A7.out.cell 1
  have A7c2:=A7.out.cell 2
  have A7c3:=A7.out.cell 3
  have A7c4:=A7.out.cell 4
  have A7l:=A7.out.lt
  have S14c0:=S14.out.cell 0
  have S14c1:=S14.out.cell 1
  have S14c2:=S14.out.cell 2
  have S14c3:=S14.out.cell 3
  have S14c4:=S14.out.cell 4
  have S14c5:=S14.out.cell 5
  have S14c6:=S14.out.cell 6
  have S14c7:=S14.out.cell 7
  have S14c8:=S14.out.cell 8
  have S14l:=S14.out.lt
  go_wp2_with fail
  refine (H10.out _ r d HD.out (HC.out.below HB.out)).mono ?_
  rintro e w18 ⟨rfl,hb⟩
  have HB:=Lib.hid (HB.out.trans (hb.mono HB.out.size))
  have T3:=Lib.hid (T3.out.below hb T3.out.lt)
  have S4:=Lib.hid (S4.out.below hb S4.out.lt)
  have A5:=Lib.hid (A5.out.below hb A5.out.lt)
  have A7:=Lib.hid (A7.out.below hb A7.out.lt)
  have S14:=Lib.hid (S14.out.below hb S14.out.lt)
  clear hb T3c0 T3c1 T3l S4c0 S4c1 S4c2 S4c3 S4c4 S4c5 S4c6 S4c7 S4c8 S4l A5c0 A5c1 A5c2 A5c3 A5c4 A5l A7c0 A7c1 A7c2 A7c3 A7c4 A7l S14c0 S14c1 S14c2 S14c3 S14c4 S14c5 S14c6 S14c7 S14c8 S14l
  have T3c0:=T3.out.cell 0
  have T3c1:=T3.out.cell 1
  have T3l:=T3.out.lt
  have S4c0:=S4.out.cell 0
  have S4c1:=S4.out.cell 1
  have S4c2:=S4.out.cell 2
  have S4c3:=S4.out.cell 3
  have S4c4:=S4.out.cell 4
  have S4c5:=S4.out.cell 5
  have S4c6:=S4.out.cell 6
  have S4c7:=S4.out.cell 7
  have S4c8:=S4.out.cell 8
  have S4l:=S4.out.lt
  have A5c0:=A5.out.cell 0
  have A5c1:=A5.out.cell 1
  have A5c2:=A5.out.cell 2
  have A5c3:=A5.out.cell 3
  have A5c4:=A5.out.cell 4
  have A5l:=A5.out.lt
  have A7c0:=A7.out.cell 0
  have A7c1:=A7.out.cell 1
  have A7c2:=A7.out.cell 2
  have A7c3:=A7.out.cell 3
  have A7c4:=A7.out.cell 4
  have A7l:=A7.out.lt
  have S14c0:=S14.out.cell 0
  have S14c1:=S14.out.cell 1
  have S14c2:=S14.out.cell 2
  have S14c3:=S14.out.cell 3
  have S14c4:=S14.out.cell 4
  have S14c5:=S14.out.cell 5
  have S14c6:=S14.out.cell 6
  have S14c7:=S14.out.cell 7
  have S14c8:=S14.out.cell 8
  have S14l:=S14.out.lt
  go_wp2_with fail
  go_ret
  exact ⟨rfl,HBW.out.trans (HB.out.mono HBW.out.size)⟩
end Go.Proofs.YtagebkachdmnbaaGreatDoor.Thr
end
