/- Part 38 of the proof: what is used of the texts StmY, StmH. -/
import Derived.Test.YtppdbnccinfegaaGreatDoorKD4
import Derived.Test.YtppdbnccinfegaaGreatDoorKC4
section
namespace Go.Proofs.YtppdbnccinfegaaGreatDoor.Prog
open Go.RowKit Go.Proofs.YtppdbnccinfegaaGreatDoor.Mem Go.Proofs.YtppdbnccinfegaaGreatDoor.Expr Go.Lib
set_option maxRecDepth 100000 in
set_option maxHeartbeats 4000000 in
theorem proper_8 (x:Mark) (hk:x.kind=8) (hbd:x.bd) (hsl:slim x) (av bv:Value) (w:World) (hra:Row w av x.a) (hrb:Row w bv x.b):Calls Tryz.prog 164 #[.agg #[.int .u8 x.kind,.int .u8 x.reg,.int .u8 x.mode,.int .u8 x.loc,av,bv]] w (Told (x.kind=0 \/ (mkOf x).proper) w):=by
  obtain ⟨kd,rg,md,lc,xa,xb⟩:=x
  dsimp only at hk hra hrb ⊢
  subst hk
  obtain ⟨pa,ca,rfl,hla⟩:=hra.len
  obtain ⟨pb,cb,rfl,hlb⟩:=hrb.len
  have hb:Below w.heap.size w (mkBox w ⟨8,rg,md,lc,xa,xb⟩ (.slice pa xa.length ca) (.slice pb xb.length cb)):=(Below.refl _ _).alloc (Nat.le_refl _) _
  have HBX:=Lib.hid (show Sits (mkBox w ⟨8,rg,md,lc,xa,xb⟩ (.slice pa xa.length ca) (.slice pb xb.length cb)) w.heap.size 167 #[.int .u8 (8:Nat),.int .u8 rg,.int .u8 md,.int .u8 lc,.slice pa xa.length ca,.slice pb xb.length cb] from Sits.new _ _ _)
  have HRA:=Lib.hid (hra.below hb)
  have HRB:=Lib.hid (hrb.below hb)
  have HEA:=Lib.hid (fun W (h:Row W (.slice pa xa.length ca) xa)=>refExpr_any xa hbd.2.2.2.2.1 (by have:xa.length<=30:=hsl.1;omega) (.slice pa xa.length ca) W h)
  have HEB:=Lib.hid (fun W (h:Row W (.slice pb xb.length cb) xb)=>refExpr_any xb hbd.2.2.2.2.2 (by have:xb.length<=30:=hsl.2;omega) (.slice pb xb.length cb) W h)
  have j1:(xa.length:Int)<=1000000:=by omega
  have j2:(xb.length:Int)<=1000000:=by omega
  have HOK:=Lib.hid (show okO (exOf xa)/\okO (exOf xb) from ⟨exOf_ok hbd.2.2.2.2.1,exOf_ok hbd.2.2.2.2.2⟩)
  have HMO:=Lib.hid (fun W=>modes_len 8 (by have:8<256:=hbd.1;omega) W)
  have HML:=Lib.hid (modes_short 8)
  have HB0:=Lib.hid hb
  clear hra hrb hbd hsl hla hlb hb
  go_enter Tryz.func164,Tryz.ntmps164
  go_wp2_with fail
  refine (HMO.out _).mono ?_
  rintro e w1 ⟨p,rfl,hrow,hb⟩
  have hb:Below (mkBox w ⟨8,rg,md,lc,xa,xb⟩ (.slice pa xa.length ca) (.slice pb xb.length cb)).heap.size (mkBox w ⟨8,rg,md,lc,xa,xb⟩ (.slice pa xa.length ca) (.slice pb xb.length cb)) w1:=hb
  have HX1:=Lib.hid (HBX.out.below hb HBX.out.lt)
  have HRA1:=Lib.hid (HRA.out.below hb)
  have HRB1:=Lib.hid (HRB.out.below hb)
  have HB1:=Lib.hid (HB0.out.trans (hb.mono HB0.out.size))
  have HROW:=Lib.hid hrow
  clear hb hrow HBX HRA HRB HB0
  generalize w.heap.size=gx at HX1 ⊢
  have hl:(modesOf 8).length=0:=by decide
  rw [hl] at HROW ⊢
  have HL:=Lib.hid hl
  clear hl HML
  go_wp2_with fail
  go_loopg [3,5] 0 (fun gg v3 v5 wx=>∃ (j:Nat) (mv:Bool),j<=0/\gg=0 - j/\v3 = .bool mv/\v5 = .int .i64 (j:Nat)/\Hid (Below w1.heap.size w1 wx)/\Hid (Flag mv (md ∈ modesOf 8)))
  case atStart=>exact ⟨0,false,by omega,by omega,rfl,rfl,Lib.hid (Below.refl _ _),Lib.hid fun h=>by cases h⟩
  case round =>
    obtain ⟨j,mv,hj,rfl,rfl,rfl,HBj,HF⟩:=hrel
    have hbx:=HX1.out.below HBj.out HX1.out.lt
    by_cases hlt:j<0
    · obtain ⟨g,rfl,hs⟩:=HROW.out j hlt
      have hs:=hs.below HBj.out hs.lt
      have c2:wr.cell? ⟨gx,2,none⟩=some (.int .u8 md):=hbx.cell 2
      have lx:=hbx.lt
      have lg:=hs.lt
      have hy:(modesOf 8)[j]? = some ((modesOf 8)[j]'(by rw [HL.out];exact hlt)):=List.getElem?_eq_getElem _
      generalize (modesOf 8)[j]'(by rw [HL.out];exact hlt)=y at hy
      have cy:wr.cell? ⟨g,0+j,none⟩=some (.int .u8 (y:Nat)):=by rw [Nat.zero_add,hs.cell];simp [hy]
      have cy':wr.cell? ⟨g,j,none⟩=some (.int .u8 (y:Nat)):=by rw [hs.cell];simp [hy]
      have m1:(j:Int)<0:=by omega
      have m2:(0:Int)<=(j:Int):=by omega
      have HY:=Lib.hid hy
      have HJ:=Lib.hid hlt
      have j4:(j:Int)<=4:=by omega
      clear hy hs hlt hj hbx
      cases mv
      · go_wp2_with fail
        go_quiet (fail)
        go_wp2_with fail
        go_roundg (0 - (j+1))
        case measure=>have:=HJ.out;omega
        case rel=>exact ⟨j+1,_,HJ.out,rfl,rfl,by go_num,Lib.hid (drewN_below HBj.out _),Lib.hid fun h=>by
          have e:y=md:=by have:=eq_of_beq h;omega
          rw [<- e];exact List.mem_of_getElem? HY.out⟩
      · go_wp2_with fail
        go_quiet (fail)
        go_wp2_with fail
        go_roundg (0 - (j+1))
        case measure=>have:=HJ.out;omega
        case rel=>exact ⟨j+1,_,HJ.out,rfl,rfl,by go_num,Lib.hid (drewN_below HBj.out _),Lib.hid fun _=>HF.out rfl⟩
    · obtain rfl:j=0:=by omega
      clear hlt hj
      have HMZ:=Lib.hid (show Flag ((md:Int) == 0) (modeOk 8 md) from fun h => .inr ⟨List.length_eq_zero_iff.1 HL.out,by have:=eq_of_beq h;omega⟩)
      generalize hmz:((md:Int) == 0)=mz at HMZ
      have b0:wr.cell? ⟨gx,0,none⟩=some (.int .u8 8):=hbx.cell 0
      have b1:wr.cell? ⟨gx,1,none⟩=some (.int .u8 rg):=hbx.cell 1
      have b2:wr.cell? ⟨gx,2,none⟩=some (.int .u8 md):=hbx.cell 2
      have b3:wr.cell? ⟨gx,3,none⟩=some (.int .u8 lc):=hbx.cell 3
      have b4:wr.cell? ⟨gx,4,none⟩=some (.slice pa xa.length ca):=hbx.cell 4
      have b5:wr.cell? ⟨gx,5,none⟩=some (.slice pb xb.length cb):=hbx.cell 5
      have lx:=hbx.lt
      clear hbx
      go_upto_region 9 with fail
      go_cut [6] (fun v6 wx=>∃ lz:Bool,v6 = .bool lz/\Hid (Flag lz (isLetter lc))/\wx=wr)
      case first =>
        by_cases h1:(97:Int)<=(lc:Int)
        · by_cases h2:(lc:Int)<=122
          · have HH:=Lib.hid (show isLetter lc from ⟨by omega,by omega⟩)
            go_wp2_with fail
            go_meet
            exact ⟨true,rfl,Lib.hid (fun _=>HH.out),rfl⟩
          · have h2':(122:Int)<(lc:Int):=by omega
            go_wp2_with fail
            go_meet
            exact ⟨false,rfl,Lib.hid (fun h=>by cases h),rfl⟩
        · have h2':(lc:Int)<(97:Int):=by omega
          go_wp2_with fail
          go_meet
          exact ⟨false,rfl,Lib.hid (fun h=>by cases h),rfl⟩
      case rest =>
        obtain ⟨lz,rfl,HLZ,hwc⟩:=hcut
        have hwc:=hwc.symm
        subst hwc
        clear b0 b1 b2 b3 b4 b5 lx
        have HXb:=Lib.hid (HX1.out.below HBj.out HX1.out.lt)
        have HRAb:=Lib.hid (HRA1.out.below HBj.out)
        have HRBb:=Lib.hid (HRB1.out.below HBj.out)
        have HLOW:=Lib.hid (HB1.out.trans (HBj.out.mono HB1.out.size))
        go_wp2_with fail
        have X4:∀ y:Within (Under wr),y.now.cell? ⟨gx,4,none⟩=some (.slice pa xa.length ca):=fun y=>(HXb.out.below y.ok HXb.out.lt).cell 4
        have X5:∀ y:Within (Under wr),y.now.cell? ⟨gx,5,none⟩=some (.slice pb xb.length cb):=fun y=>(HXb.out.below y.ok HXb.out.lt).cell 5
        have YA:=Lib.hid (fun y:Within (Under wr)=>HEA.out y.now (HRAb.out.below y.ok))
        have YB:=Lib.hid (fun y:Within (Under wr)=>HEB.out y.now (HRBb.out.below y.ok))
        have LT:∀ y:Within (Under wr),gx<y.now.heap.size:=fun y=>(HXb.out.below y.ok HXb.out.lt).lt
        have ne:Nonempty (Within (Under wr)):=⟨⟨_,Under.refl wr⟩⟩
        refine wp_region_within (Under wr) (Under.refl wr) (by kernel_rfl) (by kernel_rfl) ?_
        repeat (go_big_quiet_step (first | with_reducible exact under_made (YA.out _) | with_reducible exact under_made (YB.out _)))
        refine wpQuiet_nil ?_
        intro w3 hw3
        have hb:Under wr w3:=by obtain ⟨y,rfl⟩:=hw3;exact y.ok
        have hbx:=HXb.out.below hb HXb.out.lt
        have HEND:=Lib.hid (HLOW.out.trans (hb.mono HLOW.out.size))
        have HAZ:∃ az:Bool,Hid (Flag az ((exOf xa).isSome=true))/\(!(str (exO (exOf xa))).toList.isEmpty)=az:=⟨_,Lib.hid some_of_text,rfl⟩
        have HBZ:∃ bz:Bool,Hid (Flag bz ((exOf xb).isSome=true))/\(!(str (exO (exOf xb))).toList.isEmpty)=bz:=⟨_,Lib.hid some_of_text,rfl⟩
        obtain ⟨az,HAZ,ea⟩:=HAZ
        obtain ⟨bz,HBZ,eb⟩:=HBZ
        rw [ea,eb]
        clear ea eb X4 X5 YA YB LT ne hw3 hb
        have b0:w3.cell? ⟨gx,0,none⟩=some (.int .u8 8):=hbx.cell 0
        have b1:w3.cell? ⟨gx,1,none⟩=some (.int .u8 rg):=hbx.cell 1
        have b3:w3.cell? ⟨gx,3,none⟩=some (.int .u8 lc):=hbx.cell 3
        have b4:w3.cell? ⟨gx,4,none⟩=some (.slice pa xa.length ca):=hbx.cell 4
        have b5:w3.cell? ⟨gx,5,none⟩=some (.slice pb xb.length cb):=hbx.cell 5
        have lx:=hbx.lt
        clear hbx
        go_upto_region 12 with fail
        have HNZ:=Lib.hid (show Flag ((xb.length:Int) == 0) (exOf xb=none) from fun h=>by
          have h1:=eq_of_beq h
          rw [List.length_eq_zero_iff.1 (show xb.length=0 by omega)];exact exOf_nil)
        generalize hnz:((xb.length:Int) == 0)=nz at HNZ ⊢
        clear hnz
        cases mz
        · go_wp2_with fail
          go_ret
          exact ⟨false,rfl,(fun h=>by cases h),HEND.out⟩
        by_cases hX:lc=0
        case neg =>
          have eX:((lc:Int) == 0)=false:=beq_eq_false_iff_ne.2 (by omega)
          clear hX
          go_wp2_with fail
          go_ret
          exact ⟨false,rfl,(fun h=>by cases h),HEND.out⟩
        have eX:((lc:Int) == 0)=true:=beq_iff_eq.2 (by omega)
        have HX0:=Lib.hid (show lc=0 from hX)
        clear hX
        by_cases hR:rg=0
        case neg =>
          have eR:((rg:Int) == 0)=false:=beq_eq_false_iff_ne.2 (by omega)
          clear hR
          go_wp2_with fail
          go_ret
          exact ⟨false,rfl,(fun h=>by cases h),HEND.out⟩
        have eR:((rg:Int) == 0)=true:=beq_iff_eq.2 (by omega)
        have HR0:=Lib.hid (show rg=0 from hR)
        clear hR
        cases az
        · go_wp2_with fail
          go_ret
          exact ⟨false,rfl,(fun h=>by cases h),HEND.out⟩
        cases nz
        · go_wp2_with fail
          go_ret
          exact ⟨false,rfl,(fun h=>by cases h),HEND.out⟩
        go_wp2_with fail
        go_ret
        exact ⟨true,rfl,(fun _ => .inr ⟨HOK.out.1,HOK.out.2,⟨mode_zero (by decide) (HMZ.out rfl),HX0.out,HR0.out,HAZ.out rfl,HNZ.out rfl⟩⟩),HEND.out⟩
set_option maxRecDepth 100000 in
set_option maxHeartbeats 4000000 in
theorem proper_9 (x:Mark) (hk:x.kind=9) (hbd:x.bd) (hsl:slim x) (av bv:Value) (w:World) (hra:Row w av x.a) (hrb:Row w bv x.b):Calls Tryz.prog 164 #[.agg #[.int .u8 x.kind,.int .u8 x.reg,.int .u8 x.mode,.int .u8 x.loc,av,bv]] w (Told (x.kind=0 \/ (mkOf x).proper) w):=by
  obtain ⟨kd,rg,md,lc,xa,xb⟩:=x
  dsimp only at hk hra hrb ⊢
  subst hk
  obtain ⟨pa,ca,rfl,hla⟩:=hra.len
  obtain ⟨pb,cb,rfl,hlb⟩:=hrb.len
  have hb:Below w.heap.size w (mkBox w ⟨9,rg,md,lc,xa,xb⟩ (.slice pa xa.length ca) (.slice pb xb.length cb)):=(Below.refl _ _).alloc (Nat.le_refl _) _
  have HBX:=Lib.hid (show Sits (mkBox w ⟨9,rg,md,lc,xa,xb⟩ (.slice pa xa.length ca) (.slice pb xb.length cb)) w.heap.size 167 #[.int .u8 (9:Nat),.int .u8 rg,.int .u8 md,.int .u8 lc,.slice pa xa.length ca,.slice pb xb.length cb] from Sits.new _ _ _)
  have HRA:=Lib.hid (hra.below hb)
  have HRB:=Lib.hid (hrb.below hb)
  have HEA:=Lib.hid (fun W (h:Row W (.slice pa xa.length ca) xa)=>refExpr_any xa hbd.2.2.2.2.1 (by have:xa.length<=30:=hsl.1;omega) (.slice pa xa.length ca) W h)
  have HEB:=Lib.hid (fun W (h:Row W (.slice pb xb.length cb) xb)=>refExpr_any xb hbd.2.2.2.2.2 (by have:xb.length<=30:=hsl.2;omega) (.slice pb xb.length cb) W h)
  have j1:(xa.length:Int)<=1000000:=by omega
  have j2:(xb.length:Int)<=1000000:=by omega
  have HOK:=Lib.hid (show okO (exOf xa)/\okO (exOf xb) from ⟨exOf_ok hbd.2.2.2.2.1,exOf_ok hbd.2.2.2.2.2⟩)
  have HMO:=Lib.hid (fun W=>modes_len 9 (by have:9<256:=hbd.1;omega) W)
  have HML:=Lib.hid (modes_short 9)
  have HB0:=Lib.hid hb
  clear hra hrb hbd hsl hla hlb hb
  go_enter Tryz.func164,Tryz.ntmps164
  go_wp2_with fail
  refine (HMO.out _).mono ?_
  rintro e w1 ⟨p,rfl,hrow,hb⟩
  have hb:Below (mkBox w ⟨9,rg,md,lc,xa,xb⟩ (.slice pa xa.length ca) (.slice pb xb.length cb)).heap.size (mkBox w ⟨9,rg,md,lc,xa,xb⟩ (.slice pa xa.length ca) (.slice pb xb.length cb)) w1:=hb
  have HX1:=Lib.hid (HBX.out.below hb HBX.out.lt)
  have HRA1:=Lib.hid (HRA.out.below hb)
  have HRB1:=Lib.hid (HRB.out.below hb)
  have HB1:=Lib.hid (HB0.out.trans (hb.mono HB0.out.size))
  have HROW:=Lib.hid hrow
  clear hb hrow HBX HRA HRB HB0
  generalize w.heap.size=gx at HX1 ⊢
  have hl:(modesOf 9).length=0:=by decide
  rw [hl] at HROW ⊢
  have HL:=Lib.hid hl
  clear hl HML
  go_wp2_with fail
  go_loopg [3,5] 0 (fun gg v3 v5 wx=>∃ (j:Nat) (mv:Bool),j<=0/\gg=0 - j/\v3 = .bool mv/\v5 = .int .i64 (j:Nat)/\Hid (Below w1.heap.size w1 wx)/\Hid (Flag mv (md ∈ modesOf 9)))
  case atStart=>exact ⟨0,false,by omega,by omega,rfl,rfl,Lib.hid (Below.refl _ _),Lib.hid fun h=>by cases h⟩
  case round =>
    obtain ⟨j,mv,hj,rfl,rfl,rfl,HBj,HF⟩:=hrel
    have hbx:=HX1.out.below HBj.out HX1.out.lt
    by_cases hlt:j<0
    · obtain ⟨g,rfl,hs⟩:=HROW.out j hlt
      have hs:=hs.below HBj.out hs.lt
      have c2:wr.cell? ⟨gx,2,none⟩=some (.int .u8 md):=hbx.cell 2
      have lx:=hbx.lt
      have lg:=hs.lt
      have hy:(modesOf 9)[j]? = some ((modesOf 9)[j]'(by rw [HL.out];exact hlt)):=List.getElem?_eq_getElem _
      generalize (modesOf 9)[j]'(by rw [HL.out];exact hlt)=y at hy
      have cy:wr.cell? ⟨g,0+j,none⟩=some (.int .u8 (y:Nat)):=by rw [Nat.zero_add,hs.cell];simp [hy]
      have cy':wr.cell? ⟨g,j,none⟩=some (.int .u8 (y:Nat)):=by rw [hs.cell];simp [hy]
      have m1:(j:Int)<0:=by omega
      have m2:(0:Int)<=(j:Int):=by omega
      have HY:=Lib.hid hy
      have HJ:=Lib.hid hlt
      have j4:(j:Int)<=4:=by omega
      clear hy hs hlt hj hbx
      cases mv
      · go_wp2_with fail
        go_quiet (fail)
        go_wp2_with fail
        go_roundg (0 - (j+1))
        case measure=>have:=HJ.out;omega
        case rel=>exact ⟨j+1,_,HJ.out,rfl,rfl,by go_num,Lib.hid (drewN_below HBj.out _),Lib.hid fun h=>by
          have e:y=md:=by have:=eq_of_beq h;omega
          rw [<- e];exact List.mem_of_getElem? HY.out⟩
      · go_wp2_with fail
        go_quiet (fail)
        go_wp2_with fail
        go_roundg (0 - (j+1))
        case measure=>have:=HJ.out;omega
        case rel=>exact ⟨j+1,_,HJ.out,rfl,rfl,by go_num,Lib.hid (drewN_below HBj.out _),Lib.hid fun _=>HF.out rfl⟩
    · obtain rfl:j=0:=by omega
      clear hlt hj
      have HMZ:=Lib.hid (show Flag ((md:Int) == 0) (modeOk 9 md) from fun h => .inr ⟨List.length_eq_zero_iff.1 HL.out,by have:=eq_of_beq h;omega⟩)
      generalize hmz:((md:Int) == 0)=mz at HMZ
      have b0:wr.cell? ⟨gx,0,none⟩=some (.int .u8 9):=hbx.cell 0
      have b1:wr.cell? ⟨gx,1,none⟩=some (.int .u8 rg):=hbx.cell 1
      have b2:wr.cell? ⟨gx,2,none⟩=some (.int .u8 md):=hbx.cell 2
      have b3:wr.cell? ⟨gx,3,none⟩=some (.int .u8 lc):=hbx.cell 3
      have b4:wr.cell? ⟨gx,4,none⟩=some (.slice pa xa.length ca):=hbx.cell 4
      have b5:wr.cell? ⟨gx,5,none⟩=some (.slice pb xb.length cb):=hbx.cell 5
      have lx:=hbx.lt
      clear hbx
      go_upto_region 9 with fail
      go_cut [6] (fun v6 wx=>∃ lz:Bool,v6 = .bool lz/\Hid (Flag lz (isLetter lc))/\wx=wr)
      case first =>
        by_cases h1:(97:Int)<=(lc:Int)
        · by_cases h2:(lc:Int)<=122
          · have HH:=Lib.hid (show isLetter lc from ⟨by omega,by omega⟩)
            go_wp2_with fail
            go_meet
            exact ⟨true,rfl,Lib.hid (fun _=>HH.out),rfl⟩
          · have h2':(122:Int)<(lc:Int):=by omega
            go_wp2_with fail
            go_meet
            exact ⟨false,rfl,Lib.hid (fun h=>by cases h),rfl⟩
        · have h2':(lc:Int)<(97:Int):=by omega
          go_wp2_with fail
          go_meet
          exact ⟨false,rfl,Lib.hid (fun h=>by cases h),rfl⟩
      case rest =>
        obtain ⟨lz,rfl,HLZ,hwc⟩:=hcut
        have hwc:=hwc.symm
        subst hwc
        clear b0 b1 b2 b3 b4 b5 lx
        have HXb:=Lib.hid (HX1.out.below HBj.out HX1.out.lt)
        have HRAb:=Lib.hid (HRA1.out.below HBj.out)
        have HRBb:=Lib.hid (HRB1.out.below HBj.out)
        have HLOW:=Lib.hid (HB1.out.trans (HBj.out.mono HB1.out.size))
        go_wp2_with fail
        have X4:∀ y:Within (Under wr),y.now.cell? ⟨gx,4,none⟩=some (.slice pa xa.length ca):=fun y=>(HXb.out.below y.ok HXb.out.lt).cell 4
        have X5:∀ y:Within (Under wr),y.now.cell? ⟨gx,5,none⟩=some (.slice pb xb.length cb):=fun y=>(HXb.out.below y.ok HXb.out.lt).cell 5
        have YA:=Lib.hid (fun y:Within (Under wr)=>HEA.out y.now (HRAb.out.below y.ok))
        have YB:=Lib.hid (fun y:Within (Under wr)=>HEB.out y.now (HRBb.out.below y.ok))
        have LT:∀ y:Within (Under wr),gx<y.now.heap.size:=fun y=>(HXb.out.below y.ok HXb.out.lt).lt
        have ne:Nonempty (Within (Under wr)):=⟨⟨_,Under.refl wr⟩⟩
        refine wp_region_within (Under wr) (Under.refl wr) (by kernel_rfl) (by kernel_rfl) ?_
        repeat (go_big_quiet_step (first | with_reducible exact under_made (YA.out _) | with_reducible exact under_made (YB.out _)))
        refine wpQuiet_nil ?_
        intro w3 hw3
        have hb:Under wr w3:=by obtain ⟨y,rfl⟩:=hw3;exact y.ok
        have hbx:=HXb.out.below hb HXb.out.lt
        have HEND:=Lib.hid (HLOW.out.trans (hb.mono HLOW.out.size))
        have HAZ:∃ az:Bool,Hid (Flag az ((exOf xa).isSome=true))/\(!(str (exO (exOf xa))).toList.isEmpty)=az:=⟨_,Lib.hid some_of_text,rfl⟩
        have HBZ:∃ bz:Bool,Hid (Flag bz ((exOf xb).isSome=true))/\(!(str (exO (exOf xb))).toList.isEmpty)=bz:=⟨_,Lib.hid some_of_text,rfl⟩
        obtain ⟨az,HAZ,ea⟩:=HAZ
        obtain ⟨bz,HBZ,eb⟩:=HBZ
        rw [ea,eb]
        clear ea eb X4 X5 YA YB LT ne hw3 hb
        have b0:w3.cell? ⟨gx,0,none⟩=some (.int .u8 9):=hbx.cell 0
        have b1:w3.cell? ⟨gx,1,none⟩=some (.int .u8 rg):=hbx.cell 1
        have b3:w3.cell? ⟨gx,3,none⟩=some (.int .u8 lc):=hbx.cell 3
        have b4:w3.cell? ⟨gx,4,none⟩=some (.slice pa xa.length ca):=hbx.cell 4
        have b5:w3.cell? ⟨gx,5,none⟩=some (.slice pb xb.length cb):=hbx.cell 5
        have lx:=hbx.lt
        clear hbx
        go_upto_region 12 with fail
        have HNZ:=Lib.hid (show Flag ((xb.length:Int) == 0) (exOf xb=none) from fun h=>by
          have h1:=eq_of_beq h
          rw [List.length_eq_zero_iff.1 (show xb.length=0 by omega)];exact exOf_nil)
        generalize hnz:((xb.length:Int) == 0)=nz at HNZ ⊢
        clear hnz
        cases mz
        · go_wp2_with fail
          go_ret
          exact ⟨false,rfl,(fun h=>by cases h),HEND.out⟩
        by_cases hX:lc=0
        case neg =>
          have eX:((lc:Int) == 0)=false:=beq_eq_false_iff_ne.2 (by omega)
          clear hX
          go_wp2_with fail
          go_ret
          exact ⟨false,rfl,(fun h=>by cases h),HEND.out⟩
        have eX:((lc:Int) == 0)=true:=beq_iff_eq.2 (by omega)
        have HX0:=Lib.hid (show lc=0 from hX)
        clear hX
        by_cases hR:rg=0
        case neg =>
          have eR:((rg:Int) == 0)=false:=beq_eq_false_iff_ne.2 (by omega)
          clear hR
          go_wp2_with fail
          go_ret
          exact ⟨false,rfl,(fun h=>by cases h),HEND.out⟩
        have eR:((rg:Int) == 0)=true:=beq_iff_eq.2 (by omega)
        have HR0:=Lib.hid (show rg=0 from hR)
        clear hR
        cases az
        · go_wp2_with fail
          go_ret
          exact ⟨false,rfl,(fun h=>by cases h),HEND.out⟩
        cases nz
        · go_wp2_with fail
          go_ret
          exact ⟨false,rfl,(fun h=>by cases h),HEND.out⟩
        go_wp2_with fail
        go_ret
        exact ⟨true,rfl,(fun _ => .inr ⟨HOK.out.1,HOK.out.2,⟨mode_zero (by decide) (HMZ.out rfl),HX0.out,HR0.out,HAZ.out rfl,HNZ.out rfl⟩⟩),HEND.out⟩
set_option maxRecDepth 100000 in
set_option maxHeartbeats 4000000 in
theorem proper_more (x:Mark) (hk:10<=x.kind) (hbd:x.bd) (hsl:slim x) (av bv:Value) (w:World) (hra:Row w av x.a) (hrb:Row w bv x.b):Calls Tryz.prog 164 #[.agg #[.int .u8 x.kind,.int .u8 x.reg,.int .u8 x.mode,.int .u8 x.loc,av,bv]] w (Told (x.kind=0 \/ (mkOf x).proper) w):=by
  obtain ⟨kd,rg,md,lc,xa,xb⟩:=x
  dsimp only at hk hra hrb ⊢
  obtain ⟨pa,ca,rfl,hla⟩:=hra.len
  obtain ⟨pb,cb,rfl,hlb⟩:=hrb.len
  have hb:Below w.heap.size w (mkBox w ⟨kd,rg,md,lc,xa,xb⟩ (.slice pa xa.length ca) (.slice pb xb.length cb)):=(Below.refl _ _).alloc (Nat.le_refl _) _
  have HBX:=Lib.hid (show Sits (mkBox w ⟨kd,rg,md,lc,xa,xb⟩ (.slice pa xa.length ca) (.slice pb xb.length cb)) w.heap.size 167 #[.int .u8 (kd:Nat),.int .u8 rg,.int .u8 md,.int .u8 lc,.slice pa xa.length ca,.slice pb xb.length cb] from Sits.new _ _ _)
  have HRA:=Lib.hid (hra.below hb)
  have HRB:=Lib.hid (hrb.below hb)
  have HEA:=Lib.hid (fun W (h:Row W (.slice pa xa.length ca) xa)=>refExpr_any xa hbd.2.2.2.2.1 (by have:xa.length<=30:=hsl.1;omega) (.slice pa xa.length ca) W h)
  have HEB:=Lib.hid (fun W (h:Row W (.slice pb xb.length cb) xb)=>refExpr_any xb hbd.2.2.2.2.2 (by have:xb.length<=30:=hsl.2;omega) (.slice pb xb.length cb) W h)
  have j1:(xa.length:Int)<=1000000:=by omega
  have j2:(xb.length:Int)<=1000000:=by omega
  have HOK:=Lib.hid (show okO (exOf xa)/\okO (exOf xb) from ⟨exOf_ok hbd.2.2.2.2.1,exOf_ok hbd.2.2.2.2.2⟩)
  have HMO:=Lib.hid (fun W=>modes_len kd (by have:kd<256:=hbd.1;omega) W)
  have HML:=Lib.hid (modes_short kd)
  have HB0:=Lib.hid hb
  clear hra hrb hbd hsl hla hlb hb
  go_enter Tryz.func164,Tryz.ntmps164
  go_wp2_with fail
  refine (HMO.out _).mono ?_
  rintro e w1 ⟨p,rfl,hrow,hb⟩
  have hb:Below (mkBox w ⟨kd,rg,md,lc,xa,xb⟩ (.slice pa xa.length ca) (.slice pb xb.length cb)).heap.size (mkBox w ⟨kd,rg,md,lc,xa,xb⟩ (.slice pa xa.length ca) (.slice pb xb.length cb)) w1:=hb
  have HX1:=Lib.hid (HBX.out.below hb HBX.out.lt)
  have HRA1:=Lib.hid (HRA.out.below hb)
  have HRB1:=Lib.hid (HRB.out.below hb)
  have HB1:=Lib.hid (HB0.out.trans (hb.mono HB0.out.size))
  have HROW:=Lib.hid hrow
  clear hb hrow HBX HRA HRB HB0
  generalize w.heap.size=gx at HX1 ⊢
  have hl:(modesOf kd).length=0:=by unfold modesOf;rw [if_neg (by omega),if_neg (by omega),if_neg (by omega),if_neg (by omega)];rfl
  rw [hl] at HROW ⊢
  have HL:=Lib.hid hl
  clear hl HML
  go_wp2_with fail
  go_loopg [3,5] 0 (fun gg v3 v5 wx=>∃ (j:Nat) (mv:Bool),j<=0/\gg=0 - j/\v3 = .bool mv/\v5 = .int .i64 (j:Nat)/\Hid (Below w1.heap.size w1 wx)/\Hid (Flag mv (md ∈ modesOf kd)))
  case atStart=>exact ⟨0,false,by omega,by omega,rfl,rfl,Lib.hid (Below.refl _ _),Lib.hid fun h=>by cases h⟩
  case round =>
    obtain ⟨j,mv,hj,rfl,rfl,rfl,HBj,HF⟩:=hrel
    have hbx:=HX1.out.below HBj.out HX1.out.lt
    by_cases hlt:j<0
    · obtain ⟨g,rfl,hs⟩:=HROW.out j hlt
      have hs:=hs.below HBj.out hs.lt
      have c2:wr.cell? ⟨gx,2,none⟩=some (.int .u8 md):=hbx.cell 2
      have lx:=hbx.lt
      have lg:=hs.lt
      have hy:(modesOf kd)[j]? = some ((modesOf kd)[j]'(by rw [HL.out];exact hlt)):=List.getElem?_eq_getElem _
      generalize (modesOf kd)[j]'(by rw [HL.out];exact hlt)=y at hy
      have cy:wr.cell? ⟨g,0+j,none⟩=some (.int .u8 (y:Nat)):=by rw [Nat.zero_add,hs.cell];simp [hy]
      have cy':wr.cell? ⟨g,j,none⟩=some (.int .u8 (y:Nat)):=by rw [hs.cell];simp [hy]
      have m1:(j:Int)<0:=by omega
      have m2:(0:Int)<=(j:Int):=by omega
      have HY:=Lib.hid hy
      have HJ:=Lib.hid hlt
      have j4:(j:Int)<=4:=by omega
      clear hy hs hlt hj hbx
      cases mv
      · go_wp2_with fail
        go_quiet (fail)
        go_wp2_with fail
        go_roundg (0 - (j+1))
        case measure=>have:=HJ.out;omega
        case rel=>exact ⟨j+1,_,HJ.out,rfl,rfl,by go_num,Lib.hid (drewN_below HBj.out _),Lib.hid fun h=>by
          have e:y=md:=by have:=eq_of_beq h;omega
          rw [<- e];exact List.mem_of_getElem? HY.out⟩
      · go_wp2_with fail
        go_quiet (fail)
        go_wp2_with fail
        go_roundg (0 - (j+1))
        case measure=>have:=HJ.out;omega
        case rel=>exact ⟨j+1,_,HJ.out,rfl,rfl,by go_num,Lib.hid (drewN_below HBj.out _),Lib.hid fun _=>HF.out rfl⟩
    · obtain rfl:j=0:=by omega
      clear hlt hj
      have HMZ:=Lib.hid (show Flag ((md:Int) == 0) (modeOk kd md) from fun h => .inr ⟨List.length_eq_zero_iff.1 HL.out,by have:=eq_of_beq h;omega⟩)
      generalize hmz:((md:Int) == 0)=mz at HMZ
      have b0:wr.cell? ⟨gx,0,none⟩=some (.int .u8 kd):=hbx.cell 0
      have b1:wr.cell? ⟨gx,1,none⟩=some (.int .u8 rg):=hbx.cell 1
      have b2:wr.cell? ⟨gx,2,none⟩=some (.int .u8 md):=hbx.cell 2
      have b3:wr.cell? ⟨gx,3,none⟩=some (.int .u8 lc):=hbx.cell 3
      have b4:wr.cell? ⟨gx,4,none⟩=some (.slice pa xa.length ca):=hbx.cell 4
      have b5:wr.cell? ⟨gx,5,none⟩=some (.slice pb xb.length cb):=hbx.cell 5
      have lx:=hbx.lt
      clear hbx
      go_upto_region 9 with fail
      go_cut [6] (fun v6 wx=>∃ lz:Bool,v6 = .bool lz/\Hid (Flag lz (isLetter lc))/\wx=wr)
      case first =>
        by_cases h1:(97:Int)<=(lc:Int)
        · by_cases h2:(lc:Int)<=122
          · have HH:=Lib.hid (show isLetter lc from ⟨by omega,by omega⟩)
            go_wp2_with fail
            go_meet
            exact ⟨true,rfl,Lib.hid (fun _=>HH.out),rfl⟩
          · have h2':(122:Int)<(lc:Int):=by omega
            go_wp2_with fail
            go_meet
            exact ⟨false,rfl,Lib.hid (fun h=>by cases h),rfl⟩
        · have h2':(lc:Int)<(97:Int):=by omega
          go_wp2_with fail
          go_meet
          exact ⟨false,rfl,Lib.hid (fun h=>by cases h),rfl⟩
      case rest =>
        obtain ⟨lz,rfl,HLZ,hwc⟩:=hcut
        have hwc:=hwc.symm
        subst hwc
        clear b0 b1 b2 b3 b4 b5 lx
        have HXb:=Lib.hid (HX1.out.below HBj.out HX1.out.lt)
        have HRAb:=Lib.hid (HRA1.out.below HBj.out)
        have HRBb:=Lib.hid (HRB1.out.below HBj.out)
        have HLOW:=Lib.hid (HB1.out.trans (HBj.out.mono HB1.out.size))
        go_wp2_with fail
        have X4:∀ y:Within (Under wr),y.now.cell? ⟨gx,4,none⟩=some (.slice pa xa.length ca):=fun y=>(HXb.out.below y.ok HXb.out.lt).cell 4
        have X5:∀ y:Within (Under wr),y.now.cell? ⟨gx,5,none⟩=some (.slice pb xb.length cb):=fun y=>(HXb.out.below y.ok HXb.out.lt).cell 5
        have YA:=Lib.hid (fun y:Within (Under wr)=>HEA.out y.now (HRAb.out.below y.ok))
        have YB:=Lib.hid (fun y:Within (Under wr)=>HEB.out y.now (HRBb.out.below y.ok))
        have LT:∀ y:Within (Under wr),gx<y.now.heap.size:=fun y=>(HXb.out.below y.ok HXb.out.lt).lt
        have ne:Nonempty (Within (Under wr)):=⟨⟨_,Under.refl wr⟩⟩
        refine wp_region_within (Under wr) (Under.refl wr) (by kernel_rfl) (by kernel_rfl) ?_
        repeat (go_big_quiet_step (first | with_reducible exact under_made (YA.out _) | with_reducible exact under_made (YB.out _)))
        refine wpQuiet_nil ?_
        intro w3 hw3
        have hb:Under wr w3:=by obtain ⟨y,rfl⟩:=hw3;exact y.ok
        have hbx:=HXb.out.below hb HXb.out.lt
        have HEND:=Lib.hid (HLOW.out.trans (hb.mono HLOW.out.size))
        have HAZ:∃ az:Bool,Hid (Flag az ((exOf xa).isSome=true))/\(!(str (exO (exOf xa))).toList.isEmpty)=az:=⟨_,Lib.hid some_of_text,rfl⟩
        have HBZ:∃ bz:Bool,Hid (Flag bz ((exOf xb).isSome=true))/\(!(str (exO (exOf xb))).toList.isEmpty)=bz:=⟨_,Lib.hid some_of_text,rfl⟩
        obtain ⟨az,HAZ,ea⟩:=HAZ
        obtain ⟨bz,HBZ,eb⟩:=HBZ
        rw [ea,eb]
        clear ea eb X4 X5 YA YB LT ne hw3 hb
        have b0:w3.cell? ⟨gx,0,none⟩=some (.int .u8 kd):=hbx.cell 0
        have b1:w3.cell? ⟨gx,1,none⟩=some (.int .u8 rg):=hbx.cell 1
        have b3:w3.cell? ⟨gx,3,none⟩=some (.int .u8 lc):=hbx.cell 3
        have b4:w3.cell? ⟨gx,4,none⟩=some (.slice pa xa.length ca):=hbx.cell 4
        have b5:w3.cell? ⟨gx,5,none⟩=some (.slice pb xb.length cb):=hbx.cell 5
        have lx:=hbx.lt
        clear hbx
        go_upto_region 12 with fail
        have HNZ:=Lib.hid (show Flag ((xb.length:Int) == 0) (exOf xb=none) from fun h=>by
          have h1:=eq_of_beq h
          rw [List.length_eq_zero_iff.1 (show xb.length=0 by omega)];exact exOf_nil)
        generalize hnz:((xb.length:Int) == 0)=nz at HNZ ⊢
        clear hnz
        have k0:((kd:Int) == 0)=false:=beq_eq_false_iff_ne.2 (by omega)
        have k1:((kd:Int) == 1)=false:=beq_eq_false_iff_ne.2 (by omega)
        have k2:((kd:Int) == 2)=false:=beq_eq_false_iff_ne.2 (by omega)
        have k3:((kd:Int) == 3)=false:=beq_eq_false_iff_ne.2 (by omega)
        have k4:((kd:Int) == 4)=false:=beq_eq_false_iff_ne.2 (by omega)
        have k5:((kd:Int) == 5)=false:=beq_eq_false_iff_ne.2 (by omega)
        have k6:((kd:Int) == 6)=false:=beq_eq_false_iff_ne.2 (by omega)
        have k7:((kd:Int) == 7)=false:=beq_eq_false_iff_ne.2 (by omega)
        have k8:((kd:Int) == 8)=false:=beq_eq_false_iff_ne.2 (by omega)
        have k9:((kd:Int) == 9)=false:=beq_eq_false_iff_ne.2 (by omega)
        clear hk
        go_wp2_with fail
        go_ret
        exact ⟨false,rfl,(fun h=>by cases h),HEND.out⟩
end Go.Proofs.YtppdbnccinfegaaGreatDoor.Prog
end
section
namespace Go.Proofs.YtppdbnccinfegaaGreatDoor.Prog
open Go.RowKit Go.Proofs.YtppdbnccinfegaaGreatDoor.Mem Go.Proofs.YtppdbnccinfegaaGreatDoor.Expr Go.Lib
theorem over_mono:∀ (b:Blk) (n m:Nat),n<=m->b.over n=false->b.over m=false:=by
  intro b
  induction b with
  | nil=>intro n m _ _;simp [Blk.over]
  | cons s t e r iht ihe ihr =>
    intro n m hnm h
    cases n with
    | zero=>simp [Blk.over] at h
    | succ n =>
      obtain ⟨m,rfl⟩:∃ k,m=k+1:=⟨m - 1,by omega⟩
      simp only [Blk.over,Bool.or_eq_false_iff] at h ⊢
      exact ⟨⟨iht n m (by omega) h.1.1,ihe n m (by omega) h.1.2⟩,ihr (n+1) (m+1) (by omega) h.2⟩
theorem over_deep:∀ (b:Blk) (n:Nat),b.proper->b.deep<=n->b.over n=false:=by
  intro b
  induction b with
  | nil=>intro n _ _;simp [Blk.over]
  | cons m t e r iht ihe ihr =>
    intro n hp hd
    obtain ⟨hm,ht,he,hr,hne,hnt⟩:=proper_cons hp
    have h1:=(Blk.cons m t e r).deep_pos
    obtain ⟨n,rfl⟩:∃ k,n=k+1:=⟨n - 1,by omega⟩
    have hr':r.over (n+1)=false:=ihr (n+1) hr (by simp only [Blk.deep] at hd;omega)
    by_cases h8:m.kind=8
    · have ht':=iht n ht (by simp only [Blk.deep,if_pos h8] at hd;omega)
      have he':=ihe n he (by simp only [Blk.deep,if_pos h8] at hd;omega)
      simp [Blk.over,ht',he',hr']
    · obtain rfl:=hne h8
      by_cases h9:m.kind=9
      · have ht':=iht n ht (by simp only [Blk.deep,if_neg h8,if_pos h9] at hd;omega)
        simp [Blk.over,ht',hr']
      · obtain rfl:=hnt h8 h9
        simp [Blk.over,hr']
theorem over_app (q r:Blk) (n:Nat):(q.app r).over (n+1)=(q.over (n+1) || r.over (n+1)):=by
  induction q with
  | nil=>simp [Blk.app,Blk.over]
  | cons m t e q _ _ ih=>simp only [Blk.app,Blk.over,ih,Bool.or_assoc]
theorem val_len (q:Blk) (m:Mk) (t e:Blk):Value.int .i64 ((q.len:Int)+1) = .int .i64 ((q.snoc m t e).len:Nat):=by rw [Blk.len_snoc];rfl
def DeepIs (c:Blk) (rm:Int) (r:Bool):Prop:=∀ (v:Value) (w:World),Stand any_ w c v->Calls Tryz.prog 158 #[v,.int .i64 rm] w fun e w'=>Made (.returned (.bool r)) w e w'
set_option maxRecDepth 100000 in
theorem deeper1_any (m:Mk) (t e:Blk) (room:Nat) (h1:1<=room) (h2:room<=1000) (pa pb:Option Addr) (tv ev:Value) (w:World) (rb:Nat) (hrb:Sits w rb 3 #[.int .i64 (room:Nat)])
    (ht:Stand any_ w t tv) (he:Stand any_ w e ev) (bt be:Bool) (HT:DeepIs t ((room:Int) - 1) bt) (HE:DeepIs e ((room:Int) - 1) be) :
    Calls Tryz.prog 247 #[stAgg m (.pointer pa) (.pointer pb) tv ev,.pointer (some ⟨rb,0,none⟩)] w fun e' w'=>Made (.returned (.bool (bt || be))) w e' w':=by
  have hb0:Below w.heap.size w (w.alloc (.cells #[.int .u8 m.kind,.int .u8 m.reg,.int .u8 m.mode,.int .u8 m.loc,.pointer pa,.pointer pb,tv,ev] 258)):=(Below.refl _ _).alloc (Nat.le_refl _) _
  have hs0:Sits (w.alloc (.cells #[.int .u8 m.kind,.int .u8 m.reg,.int .u8 m.mode,.int .u8 m.loc,.pointer pa,.pointer pb,tv,ev] 258)) w.heap.size 258 #[.int .u8 m.kind,.int .u8 m.reg,.int .u8 m.mode,.int .u8 m.loc,.pointer pa,.pointer pb,tv,ev]:=Sits.new _ _ _
  have HB0:=Lib.hid hb0
  have HS0:=Lib.hid hs0
  have HR0:=Lib.hid (hrb.below hb0 hrb.lt)
  have HST:=Lib.hid (ht.below hb0)
  have HSE:=Lib.hid (he.below hb0)
  have HHT:=Lib.hid HT
  have HHE:=Lib.hid HE
  obtain ⟨pt,ct,rfl,_⟩:=ht.len
  obtain ⟨pe,ce,rfl,_⟩:=he.len
  have i1:(1:Int)<=(room:Int):=by omega
  have i2:(room:Int)<=1000:=by omega
  have lr:=hrb.lt
  have cr:=hrb.cell 0
  clear hrb ht he HT HE h1 h2 hb0 hs0
  unfold stAgg
  go_enter Tryz.func247,Tryz.ntmps247
  go_wp2_with fail
  generalize w.alloc (.cells #[.int .u8 m.kind,.int .u8 m.reg,.int .u8 m.mode,.int .u8 m.loc,.pointer pa,.pointer pb,.slice pt t.len ct,.slice pe e.len ce] 258)=wa at HB0 HS0 HR0 HST HSE ⊢
  refine (HHT.out _ _ HST.out).mono ?_
  rintro e' w1 ⟨rfl,hb⟩
  have HB1:=Lib.hid (HB0.out.trans (hb.mono HB0.out.size))
  have c7:=(HS0.out.below hb HS0.out.lt).cell 7
  have l7:=(HS0.out.below hb HS0.out.lt).lt
  have cr:=(HR0.out.below hb HR0.out.lt).cell 0
  have lr:=(HR0.out.below hb HR0.out.lt).lt
  have HSE1:=Lib.hid (HSE.out.below hb)
  clear hb
  cases bt
  · go_wp2_with fail
    refine (HHE.out _ _ HSE1.out).mono ?_
    rintro e' w2 ⟨rfl,hb⟩
    have HB2:=Lib.hid (HB1.out.trans (hb.mono HB1.out.size))
    clear hb
    go_wp2_with fail
    go_ret
    exact ⟨rfl,HB2.out⟩
  · go_wp2_with fail
    go_ret
    exact ⟨rfl,HB1.out⟩
theorem deeper1_enters:Expr.Enters 247:=enters_of Tryz.func247 (by kernel_rfl) rfl
def SomeIdx (r:Bool) (w:World) (e:Ending) (w':World):Prop:=∃ z:Int,e = .returned (.int .i64 z)/\decide (0<=z)=r/\Below w.heap.size w w'
set_option maxRecDepth 100000 in
set_option maxHeartbeats 1000000 in
theorem index_any (b:Blk) (room:Nat) (h1:1<=room) (h2:room<=1000) (v:Value) (w:World) (rb:Nat) (hrb:Sits w rb 3 #[.int .i64 (room:Nat)]) (hS:Stand any_ w b v)
    (IH:∀ c:Blk,c.size<b.size->DeepIs c ((room:Int) - 1) (c.over (room - 1))) :
    Calls Tryz.prog 319 #[v,.func (.func 247) #[] #[.pointer (some ⟨rb,0,none⟩)]] w (SomeIdx (b.over room) w):=by
  obtain ⟨p,cap,rfl,hl,hr⟩:=hS.rests
  have HR:=Lib.hid hr
  have HIH:=Lib.hid IH
  have HRB:=Lib.hid hrb
  have H1:=Lib.hid h1
  have H2:=Lib.hid h2
  have hen:=deeper1_enters
  unfold Expr.Enters at hen
  have i1:(b.len:Int)<=1000000:=by omega
  clear hS IH hr hl hrb h1 h2
  go_enter Tryz.func319,Tryz.ntmps319
  go_wp2_with fail
  go_loopg [8] b.len (fun gg v8 wx=>∃ (q r:Blk),gg=r.len/\b.len=q.len+r.len/\v8 = .int .i64 (q.len:Nat)/\Hid (b=q.app r)/\Hid (q.over room=false)/\Hid (Rests w p b.len r q.len)/\Hid (Below w.heap.size w wx))
  case atStart=>exact ⟨Blk.nil,b,rfl,by simp [Blk.len],rfl,Lib.hid rfl,Lib.hid (by simp [Blk.over]),HR,Lib.hid (Below.refl _ _)⟩
  case round =>
    obtain ⟨q,r,rfl,hlen,rfl,HE,HOV,HRr,HB⟩:=hrel
    obtain ⟨rm,hrm⟩:∃ k,room=k+1:=⟨room - 1,by have:=H1.out;omega⟩
    cases r with
    | nil =>
      have e:b.len=q.len:=by simpa [Blk.len] using hlen
      have HOB:=Lib.hid (show b.over room=false by rw [HE.out,Blk.app_nil];exact HOV.out)
      have i4:¬ ((q.len:Int)<(b.len:Int)):=by omega
      clear e hlen hrm
      go_wp2_with fail
      go_ret
      exact ⟨-1,rfl,by rw [HOB.out];rfl,HB.out⟩
    | cons m t e r =>
      obtain ⟨g,o,rfl,hk,hr',av,bv,tv,ev,hst,hta,htb,hst1,hst2⟩:=HRr.out.next
      obtain ⟨pa,rfl,_⟩:=hta.ptr
      obtain ⟨pb,rfl,_⟩:=htb.ptr
      have HNX:=Lib.hid hr'
      have HSZ:=Lib.hid (show t.size<b.size/\e.size<b.size by rw [HE.out,Blk.size_app];simp only [Blk.size];omega)
      have HD1:=Lib.hid (deeper1_any m t e room H1.out H2.out pa pb tv ev wr rb (HRB.out.below HB.out HRB.out.lt) (hst1.below HB.out) (hst2.below HB.out) (t.over (room - 1)) (e.over (room - 1)) (HIH.out t HSZ.out.1) (HIH.out e HSZ.out.2))
      obtain ⟨c0,c1,c2,c3,c4,c5,c6,c7⟩:=hst.low HB.out
      have lg:=World.block_lt_of_cell? _ _ c0
      obtain ⟨pt,ct,rfl,_⟩:=hst1.len
      obtain ⟨pe,ce,rfl,_⟩:=hst2.len
      have HE':=Lib.hid (show b=(q.snoc m t e).app r by rw [HE.out,Blk.snoc_app])
      have lq:(q.len:Int)<(b.len:Int):=by omega
      have lq0:(0:Int)<=(q.len:Int):=by omega
      have HLN:=Lib.hid (show b.len=(q.snoc m t e).len+r.len by rw [Blk.len_snoc];simp only [Blk.len] at hlen;omega)
      have HOA:Hid (b.over room=((t.over (room - 1) || e.over (room - 1)) || r.over room)/\(q.snoc m t e).over room=(t.over (room - 1) || e.over (room - 1))):=Lib.hid (by
        have h:=HOV.out
        rw [HE.out,Blk.snoc_eq,hrm,over_app,over_app]
        rw [hrm] at h
        rw [h]
        simp [Blk.over])
      clear hst hta htb hst1 hst2 hr' hlen hrm
      generalize (t.over (room - 1) || e.over (room - 1))=bo at HD1 HOA
      unfold stAgg at HD1
      cases bo
      · go_wp2_with fail
        refine HD1.out.mono ?_
        rintro e' w2 ⟨rfl,hb⟩
        have HB2:=Lib.hid (HB.out.trans (hb.mono HB.out.size))
        clear hb
        go_wp2_with fail
        go_roundg r.len
        case measure=>simp [Blk.len]
        case rel=>exact ⟨q.snoc m t e,r,rfl,HLN.out,val_len q m t e,HE',Lib.hid HOA.out.2,Lib.hid (by rw [Blk.len_snoc];exact HNX.out),HB2⟩
      · go_wp2_with fail
        refine HD1.out.mono ?_
        rintro e' w2 ⟨rfl,hb⟩
        have HB2:=Lib.hid (HB.out.trans (hb.mono HB.out.size))
        clear hb
        go_wp2_with fail
        go_ret
        exact ⟨q.len,rfl,by rw [HOA.out.1];simp,HB2.out⟩
set_option maxRecDepth 100000 in
theorem contains_any (r:Bool) (p:Option Addr) (n cap:Nat) (c:Array Value) (w:World) (HI:Calls Tryz.prog 319 #[.slice p n cap,.func (.func 247) #[] c] w (SomeIdx r w)) :
    Calls Tryz.prog 246 #[.slice p n cap,.func (.func 247) #[] c] w fun e w'=>Made (.returned (.bool r)) w e w':=by
  have H:=Lib.hid HI
  clear HI
  go_enter Tryz.func246,Tryz.ntmps246
  go_wp2_with fail
  refine H.out.mono ?_
  rintro e w1 ⟨z,rfl,hz,hb⟩
  have HB:=Lib.hid hb
  have HZ:=Lib.hid hz
  clear hb hz
  go_wp2_with fail
  go_ret
  exact ⟨ret_bool HZ.out,HB.out⟩
set_option maxRecDepth 100000 in
theorem deeper_any:∀ (n:Nat) (b:Blk),b.size<n->∀ (room:Nat),room<=1000->DeepIs b (room:Nat) (b.over room):=by
  intro n
  induction n with
  | zero=>intro b h;omega
  | succ n ih =>
    intro b hb room hr v w hS
    have h0:Below w.heap.size w (w.alloc (.cells #[.int .i64 (room:Nat)] 3)):=(Below.refl _ _).alloc (Nat.le_refl _) _
    have hI:1<=room->∀ W,Below (w.alloc (.cells #[.int .i64 (room:Nat)] 3)).heap.size (w.alloc (.cells #[.int .i64 (room:Nat)] 3)) W ->
        Calls Tryz.prog 319 #[v,.func (.func 247) #[] #[.pointer (some ⟨w.heap.size,0,none⟩)]] W (SomeIdx (b.over room) W):=fun h1 W hW =>
      index_any b room h1 hr v W w.heap.size ((Sits.new w 3 #[.int .i64 (room:Nat)]).below hW (by simp)) ((hS.below h0).below hW) fun c hc=>by
        have:=ih c (by omega) (room - 1) (by omega)
        rwa [show ((room - 1:Nat):Int)=(room:Int) - 1 by omega] at this
    have HI:=Lib.hid hI
    have HB0:=Lib.hid h0
    obtain ⟨p,cap,rfl,hl⟩:=hS.len
    have hov:b.len=0->b.over room=false:=fun h=>by rw [Blk.len_zero h];simp [Blk.over]
    have hov0:b.len≠0->room=0->b.over room=true:=fun h h'=>by
      subst h'
      cases b with
      | nil=>simp [Blk.len] at h
      | cons m t e r=>simp [Blk.over]
    have i1:(b.len:Int)<=1000000:=by omega
    have i2:(room:Int)<=1000:=by omega
    clear hS h0 hI
    by_cases hb0:b.len=0
    · have HO:=Lib.hid (hov hb0)
      have i3:(b.len:Int)=0:=by omega
      rw [hb0]
      clear hov hov0 i3 hb0 i1 hl
      go_enter Tryz.func158,Tryz.ntmps158
      go_wp2_with fail
      go_ret
      exact ⟨ret_bool HO.out.symm,HB0.out⟩
    · have i3:(0:Int)<(b.len:Int):=by omega
      by_cases hr0:room=0
      · have HO:=Lib.hid (hov0 hb0 hr0)
        subst hr0
        clear hov hov0 hb0 hl
        go_enter Tryz.func158,Tryz.ntmps158
        go_wp2_with fail
        go_ret
        exact ⟨ret_bool HO.out.symm,HB0.out⟩
      · have HI2:=Lib.hid (contains_any (b.over room) p b.len cap _ _ (HI.out (by omega) _ (Below.refl _ _)))
        have z0:((room:Int) == 0)=false:=beq_eq_false_iff_ne.2 (by omega)
        clear hov hov0 hb0 hl hr0 HI
        go_enter Tryz.func158,Tryz.ntmps158
        go_wp2_with fail
        refine HI2.out.mono ?_
        rintro e w1 ⟨rfl,hb⟩
        have HB:=Lib.hid (HB0.out.trans (hb.mono HB0.out.size))
        clear hb
        go_wp2_with fail
        go_ret
        exact ⟨rfl,HB.out⟩
end Go.Proofs.YtppdbnccinfegaaGreatDoor.Prog
end
