/- Part 37 of the proof: what is used of the texts StmX. -/
import Derived.Test.YtppdbnccinfegaaGreatDoorKD4
section
namespace Go.Proofs.YtppdbnccinfegaaGreatDoor.Prog
open Go.RowKit Go.Proofs.YtppdbnccinfegaaGreatDoor.Mem Go.Proofs.YtppdbnccinfegaaGreatDoor.Expr Go.Lib
set_option maxRecDepth 100000 in
set_option maxHeartbeats 4000000 in
theorem proper_6 (x:Mark) (hk:x.kind=6) (hbd:x.bd) (hsl:slim x) (av bv:Value) (w:World) (hra:Row w av x.a) (hrb:Row w bv x.b):Calls Tryz.prog 164 #[.agg #[.int .u8 x.kind,.int .u8 x.reg,.int .u8 x.mode,.int .u8 x.loc,av,bv]] w (Told (x.kind=0 \/ (mkOf x).proper) w):=by
  obtain ⟨kd,rg,md,lc,xa,xb⟩:=x
  dsimp only at hk hra hrb ⊢
  subst hk
  obtain ⟨pa,ca,rfl,hla⟩:=hra.len
  obtain ⟨pb,cb,rfl,hlb⟩:=hrb.len
  have hb:Below w.heap.size w (mkBox w ⟨6,rg,md,lc,xa,xb⟩ (.slice pa xa.length ca) (.slice pb xb.length cb)):=(Below.refl _ _).alloc (Nat.le_refl _) _
  have HBX:=Lib.hid (show Sits (mkBox w ⟨6,rg,md,lc,xa,xb⟩ (.slice pa xa.length ca) (.slice pb xb.length cb)) w.heap.size 167 #[.int .u8 (6:Nat),.int .u8 rg,.int .u8 md,.int .u8 lc,.slice pa xa.length ca,.slice pb xb.length cb] from Sits.new _ _ _)
  have HRA:=Lib.hid (hra.below hb)
  have HRB:=Lib.hid (hrb.below hb)
  have HEA:=Lib.hid (fun W (h:Row W (.slice pa xa.length ca) xa)=>refExpr_any xa hbd.2.2.2.2.1 (by have:xa.length<=30:=hsl.1;omega) (.slice pa xa.length ca) W h)
  have HEB:=Lib.hid (fun W (h:Row W (.slice pb xb.length cb) xb)=>refExpr_any xb hbd.2.2.2.2.2 (by have:xb.length<=30:=hsl.2;omega) (.slice pb xb.length cb) W h)
  have j1:(xa.length:Int)<=1000000:=by omega
  have j2:(xb.length:Int)<=1000000:=by omega
  have HOK:=Lib.hid (show okO (exOf xa)/\okO (exOf xb) from ⟨exOf_ok hbd.2.2.2.2.1,exOf_ok hbd.2.2.2.2.2⟩)
  have HMO:=Lib.hid (fun W=>modes_len 6 (by have:6<256:=hbd.1;omega) W)
  have HML:=Lib.hid (modes_short 6)
  have HB0:=Lib.hid hb
  clear hra hrb hbd hsl hla hlb hb
  go_enter Tryz.func164,Tryz.ntmps164
  go_wp2_with fail
  refine (HMO.out _).mono ?_
  rintro e w1 ⟨p,rfl,hrow,hb⟩
  have hb:Below (mkBox w ⟨6,rg,md,lc,xa,xb⟩ (.slice pa xa.length ca) (.slice pb xb.length cb)).heap.size (mkBox w ⟨6,rg,md,lc,xa,xb⟩ (.slice pa xa.length ca) (.slice pb xb.length cb)) w1:=hb
  have HX1:=Lib.hid (HBX.out.below hb HBX.out.lt)
  have HRA1:=Lib.hid (HRA.out.below hb)
  have HRB1:=Lib.hid (HRB.out.below hb)
  have HB1:=Lib.hid (HB0.out.trans (hb.mono HB0.out.size))
  have HROW:=Lib.hid hrow
  clear hb hrow HBX HRA HRB HB0
  generalize w.heap.size=gx at HX1 ⊢
  have hl:(modesOf 6).length=4:=by decide
  rw [hl] at HROW ⊢
  have HL:=Lib.hid hl
  clear hl HML
  go_wp2_with fail
  go_loopg [3,5] 4 (fun gg v3 v5 wx=>∃ (j:Nat) (mv:Bool),j<=4/\gg=4 - j/\v3 = .bool mv/\v5 = .int .i64 (j:Nat)/\Hid (Below w1.heap.size w1 wx)/\Hid (Flag mv (md ∈ modesOf 6)))
  case atStart=>exact ⟨0,false,by omega,by omega,rfl,rfl,Lib.hid (Below.refl _ _),Lib.hid fun h=>by cases h⟩
  case round =>
    obtain ⟨j,mv,hj,rfl,rfl,rfl,HBj,HF⟩:=hrel
    have hbx:=HX1.out.below HBj.out HX1.out.lt
    by_cases hlt:j<4
    · obtain ⟨g,rfl,hs⟩:=HROW.out j hlt
      have hs:=hs.below HBj.out hs.lt
      have c2:wr.cell? ⟨gx,2,none⟩=some (.int .u8 md):=hbx.cell 2
      have lx:=hbx.lt
      have lg:=hs.lt
      have hy:(modesOf 6)[j]? = some ((modesOf 6)[j]'(by rw [HL.out];exact hlt)):=List.getElem?_eq_getElem _
      generalize (modesOf 6)[j]'(by rw [HL.out];exact hlt)=y at hy
      have cy:wr.cell? ⟨g,0+j,none⟩=some (.int .u8 (y:Nat)):=by rw [Nat.zero_add,hs.cell];simp [hy]
      have cy':wr.cell? ⟨g,j,none⟩=some (.int .u8 (y:Nat)):=by rw [hs.cell];simp [hy]
      have m1:(j:Int)<4:=by omega
      have m2:(0:Int)<=(j:Int):=by omega
      have HY:=Lib.hid hy
      have HJ:=Lib.hid hlt
      have j4:(j:Int)<=4:=by omega
      clear hy hs hlt hj hbx
      cases mv
      · go_wp2_with fail
        go_quiet (fail)
        go_wp2_with fail
        go_roundg (4 - (j+1))
        case measure=>have:=HJ.out;omega
        case rel=>exact ⟨j+1,_,HJ.out,rfl,rfl,by go_num,Lib.hid (drewN_below HBj.out _),Lib.hid fun h=>by
          have e:y=md:=by have:=eq_of_beq h;omega
          rw [<- e];exact List.mem_of_getElem? HY.out⟩
      · go_wp2_with fail
        go_quiet (fail)
        go_wp2_with fail
        go_roundg (4 - (j+1))
        case measure=>have:=HJ.out;omega
        case rel=>exact ⟨j+1,_,HJ.out,rfl,rfl,by go_num,Lib.hid (drewN_below HBj.out _),Lib.hid fun _=>HF.out rfl⟩
    · obtain rfl:j=4:=by omega
      clear hlt hj
      have HMZ:=Lib.hid (show Flag mv (modeOk 6 md) from fun h => .inl (HF.out h))
      have b0:wr.cell? ⟨gx,0,none⟩=some (.int .u8 6):=hbx.cell 0
      have b1:wr.cell? ⟨gx,1,none⟩=some (.int .u8 rg):=hbx.cell 1
      have b2:wr.cell? ⟨gx,2,none⟩=some (.int .u8 md):=hbx.cell 2
      have b3:wr.cell? ⟨gx,3,none⟩=some (.int .u8 lc):=hbx.cell 3
      have b4:wr.cell? ⟨gx,4,none⟩=some (.slice pa xa.length ca):=hbx.cell 4
      have b5:wr.cell? ⟨gx,5,none⟩=some (.slice pb xb.length cb):=hbx.cell 5
      have lx:=hbx.lt
      clear hbx
      go_upto_region 9 with fail
      go_cut [6] (fun v6 wx=>∃ lz:Bool,v6 = .bool lz/\Hid (Flag lz (isLetter lc))/\wx=wr)
      case first =>
        by_cases h1:(97:Int)<=(lc:Int)
        · by_cases h2:(lc:Int)<=122
          · have HH:=Lib.hid (show isLetter lc from ⟨by omega,by omega⟩)
            go_wp2_with fail
            go_meet
            exact ⟨true,rfl,Lib.hid (fun _=>HH.out),rfl⟩
          · have h2':(122:Int)<(lc:Int):=by omega
            go_wp2_with fail
            go_meet
            exact ⟨false,rfl,Lib.hid (fun h=>by cases h),rfl⟩
        · have h2':(lc:Int)<(97:Int):=by omega
          go_wp2_with fail
          go_meet
          exact ⟨false,rfl,Lib.hid (fun h=>by cases h),rfl⟩
      case rest =>
        obtain ⟨lz,rfl,HLZ,hwc⟩:=hcut
        have hwc:=hwc.symm
        subst hwc
        clear b0 b1 b2 b3 b4 b5 lx
        have HXb:=Lib.hid (HX1.out.below HBj.out HX1.out.lt)
        have HRAb:=Lib.hid (HRA1.out.below HBj.out)
        have HRBb:=Lib.hid (HRB1.out.below HBj.out)
        have HLOW:=Lib.hid (HB1.out.trans (HBj.out.mono HB1.out.size))
        go_wp2_with fail
        have X4:∀ y:Within (Under wr),y.now.cell? ⟨gx,4,none⟩=some (.slice pa xa.length ca):=fun y=>(HXb.out.below y.ok HXb.out.lt).cell 4
        have X5:∀ y:Within (Under wr),y.now.cell? ⟨gx,5,none⟩=some (.slice pb xb.length cb):=fun y=>(HXb.out.below y.ok HXb.out.lt).cell 5
        have YA:=Lib.hid (fun y:Within (Under wr)=>HEA.out y.now (HRAb.out.below y.ok))
        have YB:=Lib.hid (fun y:Within (Under wr)=>HEB.out y.now (HRBb.out.below y.ok))
        have LT:∀ y:Within (Under wr),gx<y.now.heap.size:=fun y=>(HXb.out.below y.ok HXb.out.lt).lt
        have ne:Nonempty (Within (Under wr)):=⟨⟨_,Under.refl wr⟩⟩
        refine wp_region_within (Under wr) (Under.refl wr) (by kernel_rfl) (by kernel_rfl) ?_
        repeat (go_big_quiet_step (first | with_reducible exact under_made (YA.out _) | with_reducible exact under_made (YB.out _)))
        refine wpQuiet_nil ?_
        intro w3 hw3
        have hb:Under wr w3:=by obtain ⟨y,rfl⟩:=hw3;exact y.ok
        have hbx:=HXb.out.below hb HXb.out.lt
        have HEND:=Lib.hid (HLOW.out.trans (hb.mono HLOW.out.size))
        have HAZ:∃ az:Bool,Hid (Flag az ((exOf xa).isSome=true))/\(!(str (exO (exOf xa))).toList.isEmpty)=az:=⟨_,Lib.hid some_of_text,rfl⟩
        have HBZ:∃ bz:Bool,Hid (Flag bz ((exOf xb).isSome=true))/\(!(str (exO (exOf xb))).toList.isEmpty)=bz:=⟨_,Lib.hid some_of_text,rfl⟩
        obtain ⟨az,HAZ,ea⟩:=HAZ
        obtain ⟨bz,HBZ,eb⟩:=HBZ
        rw [ea,eb]
        clear ea eb X4 X5 YA YB LT ne hw3 hb
        have b0:w3.cell? ⟨gx,0,none⟩=some (.int .u8 6):=hbx.cell 0
        have b1:w3.cell? ⟨gx,1,none⟩=some (.int .u8 rg):=hbx.cell 1
        have b3:w3.cell? ⟨gx,3,none⟩=some (.int .u8 lc):=hbx.cell 3
        have b4:w3.cell? ⟨gx,4,none⟩=some (.slice pa xa.length ca):=hbx.cell 4
        have b5:w3.cell? ⟨gx,5,none⟩=some (.slice pb xb.length cb):=hbx.cell 5
        have lx:=hbx.lt
        clear hbx
        go_upto_region 12 with fail
        have HNZ:=Lib.hid (show Flag ((xb.length:Int) == 0) (exOf xb=none) from fun h=>by
          have h1:=eq_of_beq h
          rw [List.length_eq_zero_iff.1 (show xb.length=0 by omega)];exact exOf_nil)
        generalize hnz:((xb.length:Int) == 0)=nz at HNZ ⊢
        clear hnz
        cases mv
        · go_wp2_with fail
          go_ret
          exact ⟨false,rfl,(fun h=>by cases h),HEND.out⟩
        cases lz
        · go_wp2_with fail
          go_ret
          exact ⟨false,rfl,(fun h=>by cases h),HEND.out⟩
        cases az
        · go_wp2_with fail
          go_ret
          exact ⟨false,rfl,(fun h=>by cases h),HEND.out⟩
        cases bz
        · go_wp2_with fail
          go_ret
          exact ⟨false,rfl,(fun h=>by cases h),HEND.out⟩
        go_wp2_with fail
        go_ret
        exact ⟨true,rfl,(fun _ => .inr ⟨HOK.out.1,HOK.out.2,⟨show md=2 \/ md=3 \/ md=4 \/ md=5 by have:=mode_in (l:=[2,3,4,5]) (by decide) (by decide) (HMZ.out rfl);simpa using this,HLZ.out rfl,HAZ.out rfl,HBZ.out rfl⟩⟩),HEND.out⟩
set_option maxRecDepth 100000 in
set_option maxHeartbeats 4000000 in
theorem proper_7 (x:Mark) (hk:x.kind=7) (hbd:x.bd) (hsl:slim x) (av bv:Value) (w:World) (hra:Row w av x.a) (hrb:Row w bv x.b):Calls Tryz.prog 164 #[.agg #[.int .u8 x.kind,.int .u8 x.reg,.int .u8 x.mode,.int .u8 x.loc,av,bv]] w (Told (x.kind=0 \/ (mkOf x).proper) w):=by
  obtain ⟨kd,rg,md,lc,xa,xb⟩:=x
  dsimp only at hk hra hrb ⊢
  subst hk
  obtain ⟨pa,ca,rfl,hla⟩:=hra.len
  obtain ⟨pb,cb,rfl,hlb⟩:=hrb.len
  have hb:Below w.heap.size w (mkBox w ⟨7,rg,md,lc,xa,xb⟩ (.slice pa xa.length ca) (.slice pb xb.length cb)):=(Below.refl _ _).alloc (Nat.le_refl _) _
  have HBX:=Lib.hid (show Sits (mkBox w ⟨7,rg,md,lc,xa,xb⟩ (.slice pa xa.length ca) (.slice pb xb.length cb)) w.heap.size 167 #[.int .u8 (7:Nat),.int .u8 rg,.int .u8 md,.int .u8 lc,.slice pa xa.length ca,.slice pb xb.length cb] from Sits.new _ _ _)
  have HRA:=Lib.hid (hra.below hb)
  have HRB:=Lib.hid (hrb.below hb)
  have HEA:=Lib.hid (fun W (h:Row W (.slice pa xa.length ca) xa)=>refExpr_any xa hbd.2.2.2.2.1 (by have:xa.length<=30:=hsl.1;omega) (.slice pa xa.length ca) W h)
  have HEB:=Lib.hid (fun W (h:Row W (.slice pb xb.length cb) xb)=>refExpr_any xb hbd.2.2.2.2.2 (by have:xb.length<=30:=hsl.2;omega) (.slice pb xb.length cb) W h)
  have j1:(xa.length:Int)<=1000000:=by omega
  have j2:(xb.length:Int)<=1000000:=by omega
  have HOK:=Lib.hid (show okO (exOf xa)/\okO (exOf xb) from ⟨exOf_ok hbd.2.2.2.2.1,exOf_ok hbd.2.2.2.2.2⟩)
  have HMO:=Lib.hid (fun W=>modes_len 7 (by have:7<256:=hbd.1;omega) W)
  have HML:=Lib.hid (modes_short 7)
  have HB0:=Lib.hid hb
  clear hra hrb hbd hsl hla hlb hb
  go_enter Tryz.func164,Tryz.ntmps164
  go_wp2_with fail
  refine (HMO.out _).mono ?_
  rintro e w1 ⟨p,rfl,hrow,hb⟩
  have hb:Below (mkBox w ⟨7,rg,md,lc,xa,xb⟩ (.slice pa xa.length ca) (.slice pb xb.length cb)).heap.size (mkBox w ⟨7,rg,md,lc,xa,xb⟩ (.slice pa xa.length ca) (.slice pb xb.length cb)) w1:=hb
  have HX1:=Lib.hid (HBX.out.below hb HBX.out.lt)
  have HRA1:=Lib.hid (HRA.out.below hb)
  have HRB1:=Lib.hid (HRB.out.below hb)
  have HB1:=Lib.hid (HB0.out.trans (hb.mono HB0.out.size))
  have HROW:=Lib.hid hrow
  clear hb hrow HBX HRA HRB HB0
  generalize w.heap.size=gx at HX1 ⊢
  have hl:(modesOf 7).length=4:=by decide
  rw [hl] at HROW ⊢
  have HL:=Lib.hid hl
  clear hl HML
  go_wp2_with fail
  go_loopg [3,5] 4 (fun gg v3 v5 wx=>∃ (j:Nat) (mv:Bool),j<=4/\gg=4 - j/\v3 = .bool mv/\v5 = .int .i64 (j:Nat)/\Hid (Below w1.heap.size w1 wx)/\Hid (Flag mv (md ∈ modesOf 7)))
  case atStart=>exact ⟨0,false,by omega,by omega,rfl,rfl,Lib.hid (Below.refl _ _),Lib.hid fun h=>by cases h⟩
  case round =>
    obtain ⟨j,mv,hj,rfl,rfl,rfl,HBj,HF⟩:=hrel
    have hbx:=HX1.out.below HBj.out HX1.out.lt
    by_cases hlt:j<4
    · obtain ⟨g,rfl,hs⟩:=HROW.out j hlt
      have hs:=hs.below HBj.out hs.lt
      have c2:wr.cell? ⟨gx,2,none⟩=some (.int .u8 md):=hbx.cell 2
      have lx:=hbx.lt
      have lg:=hs.lt
      have hy:(modesOf 7)[j]? = some ((modesOf 7)[j]'(by rw [HL.out];exact hlt)):=List.getElem?_eq_getElem _
      generalize (modesOf 7)[j]'(by rw [HL.out];exact hlt)=y at hy
      have cy:wr.cell? ⟨g,0+j,none⟩=some (.int .u8 (y:Nat)):=by rw [Nat.zero_add,hs.cell];simp [hy]
      have cy':wr.cell? ⟨g,j,none⟩=some (.int .u8 (y:Nat)):=by rw [hs.cell];simp [hy]
      have m1:(j:Int)<4:=by omega
      have m2:(0:Int)<=(j:Int):=by omega
      have HY:=Lib.hid hy
      have HJ:=Lib.hid hlt
      have j4:(j:Int)<=4:=by omega
      clear hy hs hlt hj hbx
      cases mv
      · go_wp2_with fail
        go_quiet (fail)
        go_wp2_with fail
        go_roundg (4 - (j+1))
        case measure=>have:=HJ.out;omega
        case rel=>exact ⟨j+1,_,HJ.out,rfl,rfl,by go_num,Lib.hid (drewN_below HBj.out _),Lib.hid fun h=>by
          have e:y=md:=by have:=eq_of_beq h;omega
          rw [<- e];exact List.mem_of_getElem? HY.out⟩
      · go_wp2_with fail
        go_quiet (fail)
        go_wp2_with fail
        go_roundg (4 - (j+1))
        case measure=>have:=HJ.out;omega
        case rel=>exact ⟨j+1,_,HJ.out,rfl,rfl,by go_num,Lib.hid (drewN_below HBj.out _),Lib.hid fun _=>HF.out rfl⟩
    · obtain rfl:j=4:=by omega
      clear hlt hj
      have HMZ:=Lib.hid (show Flag mv (modeOk 7 md) from fun h => .inl (HF.out h))
      have b0:wr.cell? ⟨gx,0,none⟩=some (.int .u8 7):=hbx.cell 0
      have b1:wr.cell? ⟨gx,1,none⟩=some (.int .u8 rg):=hbx.cell 1
      have b2:wr.cell? ⟨gx,2,none⟩=some (.int .u8 md):=hbx.cell 2
      have b3:wr.cell? ⟨gx,3,none⟩=some (.int .u8 lc):=hbx.cell 3
      have b4:wr.cell? ⟨gx,4,none⟩=some (.slice pa xa.length ca):=hbx.cell 4
      have b5:wr.cell? ⟨gx,5,none⟩=some (.slice pb xb.length cb):=hbx.cell 5
      have lx:=hbx.lt
      clear hbx
      go_upto_region 9 with fail
      go_cut [6] (fun v6 wx=>∃ lz:Bool,v6 = .bool lz/\Hid (Flag lz (isLetter lc))/\wx=wr)
      case first =>
        by_cases h1:(97:Int)<=(lc:Int)
        · by_cases h2:(lc:Int)<=122
          · have HH:=Lib.hid (show isLetter lc from ⟨by omega,by omega⟩)
            go_wp2_with fail
            go_meet
            exact ⟨true,rfl,Lib.hid (fun _=>HH.out),rfl⟩
          · have h2':(122:Int)<(lc:Int):=by omega
            go_wp2_with fail
            go_meet
            exact ⟨false,rfl,Lib.hid (fun h=>by cases h),rfl⟩
        · have h2':(lc:Int)<(97:Int):=by omega
          go_wp2_with fail
          go_meet
          exact ⟨false,rfl,Lib.hid (fun h=>by cases h),rfl⟩
      case rest =>
        obtain ⟨lz,rfl,HLZ,hwc⟩:=hcut
        have hwc:=hwc.symm
        subst hwc
        clear b0 b1 b2 b3 b4 b5 lx
        have HXb:=Lib.hid (HX1.out.below HBj.out HX1.out.lt)
        have HRAb:=Lib.hid (HRA1.out.below HBj.out)
        have HRBb:=Lib.hid (HRB1.out.below HBj.out)
        have HLOW:=Lib.hid (HB1.out.trans (HBj.out.mono HB1.out.size))
        go_wp2_with fail
        have X4:∀ y:Within (Under wr),y.now.cell? ⟨gx,4,none⟩=some (.slice pa xa.length ca):=fun y=>(HXb.out.below y.ok HXb.out.lt).cell 4
        have X5:∀ y:Within (Under wr),y.now.cell? ⟨gx,5,none⟩=some (.slice pb xb.length cb):=fun y=>(HXb.out.below y.ok HXb.out.lt).cell 5
        have YA:=Lib.hid (fun y:Within (Under wr)=>HEA.out y.now (HRAb.out.below y.ok))
        have YB:=Lib.hid (fun y:Within (Under wr)=>HEB.out y.now (HRBb.out.below y.ok))
        have LT:∀ y:Within (Under wr),gx<y.now.heap.size:=fun y=>(HXb.out.below y.ok HXb.out.lt).lt
        have ne:Nonempty (Within (Under wr)):=⟨⟨_,Under.refl wr⟩⟩
        refine wp_region_within (Under wr) (Under.refl wr) (by kernel_rfl) (by kernel_rfl) ?_
        repeat (go_big_quiet_step (first | with_reducible exact under_made (YA.out _) | with_reducible exact under_made (YB.out _)))
        refine wpQuiet_nil ?_
        intro w3 hw3
        have hb:Under wr w3:=by obtain ⟨y,rfl⟩:=hw3;exact y.ok
        have hbx:=HXb.out.below hb HXb.out.lt
        have HEND:=Lib.hid (HLOW.out.trans (hb.mono HLOW.out.size))
        have HAZ:∃ az:Bool,Hid (Flag az ((exOf xa).isSome=true))/\(!(str (exO (exOf xa))).toList.isEmpty)=az:=⟨_,Lib.hid some_of_text,rfl⟩
        have HBZ:∃ bz:Bool,Hid (Flag bz ((exOf xb).isSome=true))/\(!(str (exO (exOf xb))).toList.isEmpty)=bz:=⟨_,Lib.hid some_of_text,rfl⟩
        obtain ⟨az,HAZ,ea⟩:=HAZ
        obtain ⟨bz,HBZ,eb⟩:=HBZ
        rw [ea,eb]
        clear ea eb X4 X5 YA YB LT ne hw3 hb
        have b0:w3.cell? ⟨gx,0,none⟩=some (.int .u8 7):=hbx.cell 0
        have b1:w3.cell? ⟨gx,1,none⟩=some (.int .u8 rg):=hbx.cell 1
        have b3:w3.cell? ⟨gx,3,none⟩=some (.int .u8 lc):=hbx.cell 3
        have b4:w3.cell? ⟨gx,4,none⟩=some (.slice pa xa.length ca):=hbx.cell 4
        have b5:w3.cell? ⟨gx,5,none⟩=some (.slice pb xb.length cb):=hbx.cell 5
        have lx:=hbx.lt
        clear hbx
        go_upto_region 12 with fail
        have HNZ:=Lib.hid (show Flag ((xb.length:Int) == 0) (exOf xb=none) from fun h=>by
          have h1:=eq_of_beq h
          rw [List.length_eq_zero_iff.1 (show xb.length=0 by omega)];exact exOf_nil)
        generalize hnz:((xb.length:Int) == 0)=nz at HNZ ⊢
        clear hnz
        cases mv
        · go_wp2_with fail
          go_ret
          exact ⟨false,rfl,(fun h=>by cases h),HEND.out⟩
        by_cases hX:lc=0
        case neg =>
          have eX:((lc:Int) == 0)=false:=beq_eq_false_iff_ne.2 (by omega)
          clear hX
          go_wp2_with fail
          go_ret
          exact ⟨false,rfl,(fun h=>by cases h),HEND.out⟩
        have eX:((lc:Int) == 0)=true:=beq_iff_eq.2 (by omega)
        have HX0:=Lib.hid (show lc=0 from hX)
        clear hX
        by_cases hR:rg=0
        case neg =>
          have eR:((rg:Int) == 0)=false:=beq_eq_false_iff_ne.2 (by omega)
          clear hR
          go_wp2_with fail
          go_ret
          exact ⟨false,rfl,(fun h=>by cases h),HEND.out⟩
        have eR:((rg:Int) == 0)=true:=beq_iff_eq.2 (by omega)
        have HR0:=Lib.hid (show rg=0 from hR)
        clear hR
        by_cases hE:xa.length=0
        case neg =>
          have eE:((xa.length:Int) == 0)=false:=beq_eq_false_iff_ne.2 (by omega)
          clear hE
          go_wp2_with fail
          go_ret
          exact ⟨false,rfl,(fun h=>by cases h),HEND.out⟩
        have eE:((xa.length:Int) == 0)=true:=beq_iff_eq.2 (by omega)
        have HE0:=Lib.hid (show exOf xa=none from by rw [List.length_eq_zero_iff.1 hE];exact exOf_nil)
        clear hE
        cases nz
        · go_wp2_with fail
          go_ret
          exact ⟨false,rfl,(fun h=>by cases h),HEND.out⟩
        go_wp2_with fail
        go_ret
        exact ⟨true,rfl,(fun _ => .inr ⟨HOK.out.1,HOK.out.2,⟨show md=3 \/ md=4 \/ md=5 \/ md=6 by have:=mode_in (l:=[3,4,5,6]) (by decide) (by decide) (HMZ.out rfl);simpa using this,HX0.out,HR0.out,HE0.out,HNZ.out rfl⟩⟩),HEND.out⟩
end Go.Proofs.YtppdbnccinfegaaGreatDoor.Prog
end
