/- Part 44 of the proof: what is used of the texts TelJ. -/
import Derived.Test.YtbkdappgmcebaaaGreatDoorLE0
import Derived.Test.YtbkdappgmcebaaaGreatDoorLD4
import Derived.Test.YtbkdappgmcebaaaGreatDoorLE2
import Derived.Test.YtbkdappgmcebaaaGreatDoorLB2
section
namespace Go.Proofs.YtbkdappgmcebaaaGreatDoor.Chk
open Go.RowKit Go.Proofs.YtbkdappgmcebaaaGreatDoor.Mem Go.Proofs.YtbkdappgmcebaaaGreatDoor.Expr Go.Proofs.YtbkdappgmcebaaaGreatDoor.Prog Go.Proofs.YtbkdappgmcebaaaGreatDoor.Flow Go.Lib
def uV (L:List Nat):Value->World->Prop:=fun u W=>∃ p c,URow W (.slice p L.length c) L/\u = .slice p L.length c
theorem uV_mono (L:List Nat):Flow.Mono (uV L):=fun _ _ _ ⟨p,c,h,hu⟩ hb=>⟨p,c,h.below hb,hu⟩
theorem u_made {L:List Nat} {w W:World} {e:Ending} (h:∃ v,e = .returned v/\URow W v L/\Below w.heap.size w W):∃ p c,e = .returned (.slice p L.length c)/\URow W (.slice p L.length c) L/\Below w.heap.size w W:=by
  obtain ⟨v,rfl,hv,hb⟩:=h
  obtain ⟨p,c,rfl,_⟩:=hv.len
  exact ⟨p,c,rfl,hv,hb⟩
theorem str_self (s:ByteArray):str s.data.toList=s:=by
  cases s with
  | mk d=>show ByteArray.mk d.toList.toArray=_;rw [Array.toArray_toList]
theorem self_size (s:ByteArray):s.data.toList.length=s.size:=by
  cases s with
  | mk d=>show d.toList.length=d.size;exact Array.length_toList
theorem ts_small {t:Rt} (hm:t.meek) (hb:t.bd):(tsOf t).small:=by
  have h1:(t.threads.map blkOf).length<=1000:=by rw [List.length_map];have:=hm.threads;omega
  have hf:∀ b ∈ t.threads.map blkOf,b.fine/\b.size<=10000:=fun b hb'=>by
    obtain ⟨l,hl,rfl⟩:=List.mem_map.1 hb'
    obtain ⟨i,hi⟩:=List.getElem?_of_mem hl
    have:=(hm.each i l hi).1
    exact ⟨(blkOf_sp l).fine (hb.each l hl),by have:=(endOf_le (l:=l) (by omega)).2;omega⟩
  exact ⟨by have:=hm.init;show t.init.length<=1000;omega,hb.init,h1,hf,exOf_ok hb.ask⟩
set_option maxRecDepth 100000 in
set_option maxHeartbeats 4000000 in
theorem tells_any (pi:Option Addr) (ni ci:Nat) (pt:Option Addr) (nt ct:Nat) (al:Bool) (pa:Option Addr) (na ca:Nat) (s:ByteArray) (w:World) (hS:ArgV w pi ni ci pt nt ct al pa na ca) (hs:s.size<=9223372036854775807) (hX:AllK w) :
    Calls Tryz.prog 4 #[.agg #[.slice pi ni ci,.slice pt nt ct,.bool al,.slice pa na ca],.string s] w fun e w'=>Made (.returned (.bool true)) w e w':=by
  have hb:Below w.heap.size w (w.alloc (.cells #[.slice pi ni ci,.slice pt nt ct,.bool al,.slice pa na ca] 37)):=(Below.refl _ _).alloc (Nat.le_refl _) _
  have HB0:=Lib.hid hb
  have HBX:=Lib.hid (Sits.new w 37 #[.slice pi ni ci,.slice pt nt ct,.bool al,.slice pa na ca])
  have HWK:=Lib.hid (fun W (h:Below w.heap.size w W)=>wakes_any W (hX.below h))
  have HX:=Lib.hid hX
  have HS:=Lib.hid hS
  have HSS:=Lib.hid hs
  clear hb hS hX hs
  go_enter Tryz.func4,Tryz.ntmps4
  go_wp2_with fail
  generalize w.alloc (.cells #[.slice pi ni ci,.slice pt nt ct,.bool al,.slice pa na ca] 37)=w0 at HB0 HBX ⊢
  generalize w.heap.size=gb at HBX ⊢
  refine (great_raw pi ni ci pt nt ct al pa na ca w0 HS.out.bi HS.out.bt HS.out.ba (HS.out.raw.below HB0.out)).mono ?_
  rintro e w1 ⟨z,rfl,hz,hb⟩
  have HB1:=Lib.hid (HB0.out.trans (hb.mono HB0.out.size))
  have HX1:=Lib.hid (HBX.out.below hb HBX.out.lt)
  have HZ:=Lib.hid hz
  clear hb hz
  have a0:=HX1.out.cell 0
  have a1:=HX1.out.cell 1
  have a2:=HX1.out.cell 2
  have a3:=HX1.out.cell 3
  have la:=HX1.out.lt
  cases z
  case true =>
    go_wp2_with fail
    refine (HWK.out _ HB1.out).mono ?_
    rintro e w' ⟨rfl,hb⟩
    have HE:=Lib.hid (HB1.out.trans (hb.mono HB1.out.size))
    clear hb
    go_wp2_with fail
    go_ret
    exact ⟨rfl,HE.out⟩
  have hg:=(HZ.out rfl).back HB0.out
  obtain ⟨⟨li,lt,al',lq⟩,et,vt,mt,bt1,bt2,bt3⟩:=HS.out.read hg
  obtain rfl:al' = al:=et
  clear HZ hg HS
  have HV:=Lib.hid vt
  have HD:=Lib.hid (show Rt.bd ⟨li,lt,al',lq⟩ from ⟨bt1,bt2,bt3⟩)
  have HM:=Lib.hid mt
  have HSM:=Lib.hid (ts_small mt HD.out)
  have e1:ni=li.length:=by obtain ⟨_,_,e1⟩:=vt.init.len;injection e1
  have e2:nt=lt.length:=by obtain ⟨_,_,e2,_⟩:=vt.threads.len;injection e2
  have e3:na=lq.length:=by obtain ⟨_,_,e3,_⟩:=vt.ask.len;injection e3
  obtain rfl:ni=li.length:=e1
  obtain rfl:nt=lt.length:=e2
  obtain rfl:na=lq.length:=e3
  clear vt mt bt1 bt2 bt3
  go_wp2_with fail
  clear a0 a1 a2 a3 la
  refine (shallow_any ⟨li,lt,al',lq⟩ (.slice pi li.length ci) (.slice pt lt.length ct) (.slice pa lq.length ca) w1 (HV.out.below HB1.out)).mono ?_
  rintro e w2 ⟨z,rfl,hz,hb⟩
  have HB2:=Lib.hid (HB1.out.trans (hb.mono HB1.out.size))
  have HX2:=Lib.hid (HX1.out.below hb HX1.out.lt)
  have HZ:=Lib.hid hz
  clear hb hz
  have a0:=HX2.out.cell 0
  have a1:=HX2.out.cell 1
  have a2:=HX2.out.cell 2
  have a3:=HX2.out.cell 3
  have la:=HX2.out.lt
  cases z
  case false =>
    go_wp2_with fail
    refine (HWK.out _ HB2.out).mono ?_
    rintro e w' ⟨rfl,hb⟩
    have HE:=Lib.hid (HB2.out.trans (hb.mono HB2.out.size))
    clear hb
    go_wp2_with fail
    go_ret
    exact ⟨rfl,HE.out⟩
  have HFL:=Lib.hid (HZ.out rfl)
  clear HZ
  go_wp2_with fail
  clear a0 a1 a2 a3 la
  refine (whole_any ⟨li,lt,al',lq⟩ HD.out (.slice pi li.length ci) (.slice pt lt.length ct) (.slice pa lq.length ca) w2 (HV.out.below HB2.out)).mono ?_
  rintro e w3 ⟨z,rfl,hz,hb⟩
  have HB3:=Lib.hid (HB2.out.trans (hb.mono HB2.out.size))
  have HX3:=Lib.hid (HX2.out.below hb HX2.out.lt)
  have HZ:=Lib.hid hz
  clear hb hz
  have a0:=HX3.out.cell 0
  have a1:=HX3.out.cell 1
  have a2:=HX3.out.cell 2
  have a3:=HX3.out.cell 3
  have la:=HX3.out.lt
  cases z
  case false =>
    go_wp2_with fail
    refine (HWK.out _ HB3.out).mono ?_
    rintro e w' ⟨rfl,hb⟩
    have HE:=Lib.hid (HB3.out.trans (hb.mono HB3.out.size))
    clear hb
    go_wp2_with fail
    go_ret
    exact ⟨rfl,HE.out⟩
  have HWH:=Lib.hid (HZ.out rfl)
  clear HZ
  go_wp2_with fail
  clear a0 a1 a2 a3 la
  refine (pure_any ⟨li,lt,al',lq⟩ (.slice pi li.length ci) (.slice pt lt.length ct) (.slice pa lq.length ca) w3 (HV.out.below HB3.out)).mono ?_
  rintro e w4 ⟨z,rfl,hz,hb⟩
  have HB4:=Lib.hid (HB3.out.trans (hb.mono HB3.out.size))
  have HX4:=Lib.hid (HX3.out.below hb HX3.out.lt)
  have HZ:=Lib.hid hz
  clear hb hz
  have a0:=HX4.out.cell 0
  have a1:=HX4.out.cell 1
  have a2:=HX4.out.cell 2
  have a3:=HX4.out.cell 3
  have la:=HX4.out.lt
  cases z
  case false =>
    go_wp2_with fail
    refine (HWK.out _ HB4.out).mono ?_
    rintro e w' ⟨rfl,hb⟩
    have HE:=Lib.hid (HB4.out.trans (hb.mono HB4.out.size))
    clear hb
    go_wp2_with fail
    go_ret
    exact ⟨rfl,HE.out⟩
  have HOK:=Lib.hid (show Okay ⟨li,lt,al',lq⟩ from ⟨HFL.out,HWH.out,HZ.out rfl⟩)
  clear HZ HFL HWH
  have hss:=HSS.out
  by_cases h20:(20:Int)<(s.size:Int)
  · clear hss
    go_wp2_with fail
    refine (HWK.out _ HB4.out).mono ?_
    rintro e w' ⟨rfl,hb⟩
    have HE:=Lib.hid (HB4.out.trans (hb.mono HB4.out.size))
    clear hb
    go_wp2_with fail
    go_ret
    exact ⟨rfl,HE.out⟩
  have HS20:=Lib.hid (show s.size<=20 by omega)
  clear hss
  go_wp2_with fail
  clear a0 a1 a2 a3 la h20
  refine (of_test ⟨li,lt,al',lq⟩ HD.out ⟨by have:=HM.out.threads;omega,by have:=HM.out.init;omega⟩ _ _ _ w4 (HV.out.below HB4.out)).mono ?_
  rintro e w5 ⟨vi,vt,va,rfl,hu,hb⟩
  have hv:=hu.v
  obtain ⟨pi',ci',rfl⟩:=hv.init.len
  obtain ⟨pt',ct',rfl⟩:=hv.threads.len
  obtain ⟨pa',rfl,_⟩:=hv.ask.ptr
  have hs:=check_same HOK.out
  have HSAME:=Lib.hid hs
  have HINI:=Lib.hid (show (tsOf ⟨li,lt,al',lq⟩).init=li from rfl)
  have HALL:=Lib.hid (show (tsOf ⟨li,lt,al',lq⟩).all=al' from rfl)
  have HB5:=Lib.hid (HB4.out.trans (hb.mono HB4.out.size))
  have HX5:=Lib.hid (HX4.out.below hb HX4.out.lt)
  have hlow:Below w5.heap.size w5 (w5.alloc (.cells #[.slice pi' (tsOf ⟨li,lt,al',lq⟩).init.length ci',.slice pt' (tsOf ⟨li,lt,al',lq⟩).threads.length ct',.bool al',.pointer pa'] 27)):=(Below.refl _ _).alloc (Nat.le_refl _) _
  have HTV:=Lib.hid (hv.below hlow)
  have HBOX:=Lib.hid (Sits.new w5 27 #[.slice pi' (tsOf ⟨li,lt,al',lq⟩).init.length ci',.slice pt' (tsOf ⟨li,lt,al',lq⟩).threads.length ct',.bool al',.pointer pa'])
  have HX6:=Lib.hid (HX5.out.below hlow HX5.out.lt)
  have HB6:=Lib.hid (HB5.out.trans (hlow.mono HB5.out.size))
  have HCK:=Lib.hid (fun (W:World) (hW:AllK W) (hq:TestV W (tsOf ⟨li,lt,al',lq⟩) (.slice pi' (tsOf ⟨li,lt,al',lq⟩).init.length ci') (.slice pt' (tsOf ⟨li,lt,al',lq⟩).threads.length ct') (.pointer pa'))=>check_any (tsOf ⟨li,lt,al',lq⟩) HSM.out _ _ _ W hW.2 hq)
  have HST:=Lib.hid (fun (W:World) (locs:List UInt8) (hl:locs.length<=1000) (hq:TestV W (tsOf ⟨li,lt,al',lq⟩) (.slice pi' (tsOf ⟨li,lt,al',lq⟩).init.length ci') (.slice pt' (tsOf ⟨li,lt,al',lq⟩).threads.length ct') (.pointer pa'))=>start_any (tsOf ⟨li,lt,al',lq⟩) HSM.out locs hl _ _ _ W hq)
  clear hu hv hb hs hlow
  simp only [testAgg]
  go_wp2_with fail
  generalize hw6:w5.alloc (.cells #[.slice pi' (tsOf ⟨li,lt,al',lq⟩).init.length ci',.slice pt' (tsOf ⟨li,lt,al',lq⟩).threads.length ct',.bool al',.pointer pa'] 27)=w6 at HTV HBOX HX6 HB6 ⊢
  generalize w5.heap.size=g6 at HBOX ⊢
  clear hw6
  refine (HCK.out w6 (HX.out.below HB6.out) HTV.out).mono ?_
  rintro e w7 ⟨rfl,hb⟩
  have HB7:=Lib.hid (HB6.out.trans (hb.mono HB6.out.size))
  have HX7:=Lib.hid (HX6.out.below hb HX6.out.lt)
  have HTV7:=Lib.hid (HTV.out.below hb)
  have HBOX7:=Lib.hid (HBOX.out.below hb HBOX.out.lt)
  clear hb HX5 HX6 HTV HBOX
  have a0:=HX7.out.cell 0
  have a1:=HX7.out.cell 1
  have a2:=HX7.out.cell 2
  have a3:=HX7.out.cell 3
  have la:=HX7.out.lt
  go_wp2_with fail
  clear a0 a1 a2 a3 la
  refine (check_doc ⟨li,lt,al',lq⟩ HD.out _ _ _ w7 (HV.out.below HB7.out)).mono ?_
  rintro e w8 ⟨rfl,hb⟩
  have HB8:=Lib.hid (HB7.out.trans (hb.mono HB7.out.size))
  have HX8:=Lib.hid (HX7.out.below hb HX7.out.lt)
  have HTV8:=Lib.hid (HTV7.out.below hb)
  have HBOX8:=Lib.hid (HBOX7.out.below hb HBOX7.out.lt)
  rw [<- HSAME.out.1,<- HSAME.out.2]
  clear hb HX7 HTV7 HBOX7
  go_wp2_with fail
  have hstr:str s.data.toList=s:=str_self s
  have hsl:s.data.toList.length=s.size:=self_size s
  obtain ⟨L,HLn,HS1,HS2⟩:∃ L:List Nat,Hid (L.length<=20) /\
      Hid (∀ W,Below w8.heap.size w8 W->Calls Tryz.prog 18 #[.agg #[.slice pi' (tsOf ⟨li,lt,al',lq⟩).init.length ci',.slice pt' (tsOf ⟨li,lt,al',lq⟩).threads.length ct',.bool al',.pointer pa'],.string s] W fun e W'=>∃ p c,e = .returned (.slice p L.length c)/\URow W' (.slice p L.length c) L/\Below W.heap.size W W') /\
      Hid (∀ W,Below w8.heap.size w8 W->Calls Tryz.prog 19 #[.agg #[.slice pi li.length ci,.slice pt lt.length ct,.bool al',.slice pa lq.length ca],.string s] W fun e W'=>∃ p c,e = .returned (.slice p L.length c)/\URow W' (.slice p L.length c) L/\Below W.heap.size W W'):=by
    refine ⟨s.data.toList.map fun c=>knF li.reverse c.toNat,Lib.hid (by rw [List.length_map,hsl];exact HS20.out),Lib.hid (fun W hW=>?_),Lib.hid (fun W hW=>?_)⟩
    · have:=HST.out W s.data.toList (by rw [hsl];have:=HS20.out;omega) (HTV8.out.below hW)
      rw [hstr] at this
      exact this.mono fun e W' h=>u_made h
    · have:=start_doc ⟨li,lt,al',lq⟩ s.data.toList (by rw [hsl];have:=HS20.out;omega) _ _ _ W ((HV.out.below HB8.out).below hW)
      rw [hstr] at this
      exact this.mono fun e W' h=>u_made h
  clear hstr hsl HSAME HST HCK HV HTV8
  generalize str (checkL (tsOf ⟨li,lt,al',lq⟩))=sc
  generalize checkE (tsOf ⟨li,lt,al',lq⟩)=ce
  refine wp_flowG [48,49,50,51,52,53] [eqV (.agg #[.slice pi' (tsOf ⟨li,lt,al',lq⟩).init.length ci',.slice pt' (tsOf ⟨li,lt,al',lq⟩).threads.length ct',.bool al',.pointer pa']),eqV (.string s),uV L,eqV (.agg #[.slice pi li.length ci,.slice pt lt.length ct,.bool al',.slice pa lq.length ca]),eqV (.string s),uV L] (by kernel_rfl) (by kernel_rfl) (by kernel_rfl) (by kernel_rfl) (by rfl)
    (by simp only [List.mem_cons,List.not_mem_nil,or_false,forall_eq_or_imp,forall_eq];refine ⟨?_,?_,?_,?_,?_,?_⟩ <;> (first | exact eqV_mono _ | exact uV_mono _)) ?_ ?_
  · intro i o hi ho A W hW hk he
    simp only [List.length_cons,List.length_nil,Nat.zero_add,Nat.reduceAdd] at hi
    obtain rfl | rfl | rfl | rfl | rfl | rfl:i=0 \/ i=1 \/ i=2 \/ i=3 \/ i=4 \/ i=5:=by omega
    · injection ho with ho;subst ho
      refine .inl ⟨wanted_free rfl,?_⟩
      have h5:A.tmps[5]?.getD undef = .pointer (some ⟨g6,0,none⟩):=hk 5 (by rfl)
      have c0:=(HBOX8.out.below hW HBOX8.out.lt).cell 0
      have c1:=(HBOX8.out.below hW HBOX8.out.lt).cell 1
      have c2:=(HBOX8.out.below hW HBOX8.out.lt).cell 2
      have c3:=(HBOX8.out.below hW HBOX8.out.lt).cell 3
      go_simp
      exact ⟨rfl,Below.refl _ _⟩
    · injection ho with ho;subst ho
      refine .inl ⟨wanted_free rfl,?_⟩
      have h1:A.tmps[1]?.getD undef = .string s:=hk 1 (by rfl)
      go_simp
      exact ⟨rfl,Below.refl _ _⟩
    · injection ho with ho;subst ho
      refine .inl ⟨wanted_free rfl,?_⟩
      have h48:A.tmps[48]?.getD undef = .agg #[.slice pi' (tsOf ⟨li,lt,al',lq⟩).init.length ci',.slice pt' (tsOf ⟨li,lt,al',lq⟩).threads.length ct',.bool al',.pointer pa']:=he 0 (by kernel_rfl)
      have h49:A.tmps[49]?.getD undef = .string s:=he 1 (by kernel_rfl)
      go_simp
      refine Calls.mono (HS1.out W hW) ?_
      rintro e' w' ⟨p,c,rfl,hu,hb⟩
      exact ⟨_,rfl,⟨p,c,hu,rfl⟩,hb⟩
    · injection ho with ho;subst ho
      refine .inl ⟨wanted_free rfl,?_⟩
      have h2:A.tmps[2]?.getD undef = .pointer (some ⟨gb,0,none⟩):=hk 2 (by rfl)
      have c0:=(HX8.out.below hW HX8.out.lt).cell 0
      have c1:=(HX8.out.below hW HX8.out.lt).cell 1
      have c2:=(HX8.out.below hW HX8.out.lt).cell 2
      have c3:=(HX8.out.below hW HX8.out.lt).cell 3
      go_simp
      exact ⟨rfl,Below.refl _ _⟩
    · injection ho with ho;subst ho
      refine .inl ⟨wanted_free rfl,?_⟩
      have h1:A.tmps[1]?.getD undef = .string s:=hk 1 (by rfl)
      go_simp
      exact ⟨rfl,Below.refl _ _⟩
    · injection ho with ho;subst ho
      refine .inl ⟨wanted_free rfl,?_⟩
      have h51:A.tmps[51]?.getD undef = .agg #[.slice pi li.length ci,.slice pt lt.length ct,.bool al',.slice pa lq.length ca]:=he 3 (by kernel_rfl)
      have h52:A.tmps[52]?.getD undef = .string s:=he 4 (by kernel_rfl)
      go_simp
      refine Calls.mono (HS2.out W hW) ?_
      rintro e' w' ⟨p,c,rfl,hu,hb⟩
      exact ⟨_,rfl,⟨p,c,hu,rfl⟩,hb⟩
  · intro xs W hW hV
    obtain ⟨p50,c50,H50,e50⟩:uV L (xs 2) W:=hV 2 (by simp)
    obtain ⟨p53,c53,H53,e53⟩:uV L (xs 5) W:=hV 5 (by simp)
    simp only [List.length_cons,List.length_nil,Nat.zero_add,Nat.reduceAdd,List.drop_succ_cons,List.drop_zero,Flow.putL,Act.put,List.setIfInBounds_toArray,List.set_cons_zero,List.set_cons_succ,e50,e53]
    clear hV e50 e53
    have HW:=Lib.hid hW
    have HU1:=Lib.hid H50
    have HU2:=Lib.hid H53
    clear hW H50 H53
    have n1:((ce:Int) != (ce:Int))=false:=by simp
    have n2:(sc.toList == sc.toList)=true:=beq_self_eq_true _
    have n3:((L.length:Int) != (L.length:Int))=false:=by simp
    have n4:(L.length:Int)<=20:=by have:=HLn.out;omega
    go_wp2_with fail
    clear n1 n2 n3
    go_loopg [12] L.length (fun gg v12 wx=>∃ i,i<=L.length/\gg=L.length - i/\v12 = .int .i64 (i:Nat)/\Hid (Below w8.heap.size w8 wx)/\Hid (Below W.heap.size W wx))
    case atStart=>exact ⟨0,by omega,by omega,rfl,HW,Lib.hid (Below.refl _ _)⟩
    case round =>
      obtain ⟨i,hi,rfl,rfl,HA,HC⟩:=hrel
      by_cases hil:i<L.length
      · have hx:L[i]? = some L[i]:=List.getElem?_eq_getElem hil
        generalize L[i]=x at hx
        obtain ⟨g5,o5,q5,e1,_,_,d5⟩:=URow.item (URow.below HU1.out HC.out) hx
        obtain ⟨g7,o7,q7,e2,_,_,d7⟩:=URow.item (URow.below HU2.out HC.out) hx
        injection e1 with e1 _ e3
        injection e2 with e2 _ e4
        subst e1 e2 e3 e4
        have l5:=World.block_lt_of_cell? _ _ d5
        have l7:=World.block_lt_of_cell? _ _ d7
        have p1:(i:Int)<(L.length:Int):=by omega
        have p0:(0:Int)<=(i:Int):=by omega
        have q1:((x:Int) != (x:Int))=false:=by simp
        have HK:=Lib.hid hil
        clear hx hil hi
        go_wp2_with fail
        go_quiet (fail)
        go_wp2_with fail
        go_roundg (L.length - (i+1))
        case measure=>have:=HK.out;omega
        case rel=>exact ⟨i+1,HK.out,rfl,by go_num,Lib.hid (drw HA.out),Lib.hid (drw HC.out)⟩
      · obtain rfl:i=L.length:=by omega
        have p1:¬ ((L.length:Int)<(L.length:Int)):=by omega
        clear hil hi
        go_wp2_with fail
        refine (HWK.out _ (HB8.out.trans (HA.out.mono HB8.out.size))).mono ?_
        rintro e w' ⟨rfl,hb⟩
        have HE:=Lib.hid ((HB8.out.trans (HA.out.mono HB8.out.size)).trans (hb.mono (HB8.out.trans (HA.out.mono HB8.out.size)).size))
        clear hb
        go_wp2_with fail
        go_ret
        exact ⟨rfl,HE.out⟩
end Go.Proofs.YtbkdappgmcebaaaGreatDoor.Chk
end
