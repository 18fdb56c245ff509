/- Part 40 of the proof: what is used of the texts TelF. -/
import Derived.Test.YtbkdappgmcebaaaGreatDoorLD7
import Derived.Test.YtbkdappgmcebaaaGreatDoorLD8
section
namespace Go.Proofs.YtbkdappgmcebaaaGreatDoor.Chk
open Go.RowKit Go.Proofs.YtbkdappgmcebaaaGreatDoor.Mem Go.Proofs.YtbkdappgmcebaaaGreatDoor.Expr Go.Proofs.YtbkdappgmcebaaaGreatDoor.Prog Go.Lib
def initsD:List (Nat × Nat)->List (Nat × Nat)->Bool
  | _,[]=>true
  | p,x :: r=>!p.any (ipred x.1) && (isLoc x.1 && initsD (p ++ [x]) r)
theorem initsD_step {l:List (Nat × Nat)} {i:Nat} {x:Nat × Nat} (h:l[i]? = some x):initsD (l.take i) (l.drop i)=(!(l.take i).any (ipred x.1) && (isLoc x.1 && initsD (l.take (i+1)) (l.drop (i+1)))):=by
  rw [drop_at h,initsD,List.take_add_one,h];rfl
theorem all_dropG {α:Type} {l:List α} {i:Nat} {a:α} {p:α->Bool} (h:l[i]? = some a):(l.drop i).all p=(p a && (l.drop (i+1)).all p):=by rw [drop_at h,List.all_cons]
theorem all_drop2 {α:Type} {l:List α} {i:Nat} {a:α} {p:α->Bool} {q:Bool} (h:l[i]? = some a):((l.drop i).all p && q)=(p a && ((l.drop (i+1)).all p && q)):=by rw [all_dropG h,Bool.and_assoc]
theorem drw {B:Nat} {w w':World} {n:Nat} (h:Below B w w'):Below B w (w'.drewN n):=h.trans ⟨rfl,rfl,rfl,Nat.le_refl _,fun _ _=>rfl⟩
def npred (n:Nat) (a:It):Bool:=decide (a.kind=2) && decide (n<=a.t)
def marksD (l:List Prog.Mark):Bool:=l.all rmarkF
def rcheckE (t:Rt):Nat :=
  if t.threads.length=0 then 1 else if rexF t.ask true=false then 1 else if initsD [] t.init=false then 1 else if t.threads.all marksD=false then 1 else
  if 4<t.threads.length then 4 else if 4<(rlocsF t).length then 4 else if t.ask.any (npred t.threads.length)=true then 7 else 0
def rcheckL (t:Rt):List UInt8:=if rcheckE t=0 then rlocsF t else []
set_option maxRecDepth 100000 in
set_option maxHeartbeats 4000000 in
theorem check_doc (t:Rt) (hbd:t.bd) (vi vt va:Value) (w:World) (hT:RtV w t vi vt va):Calls Tryz.prog 17 #[.agg (rtCells vi vt t.all va)] w fun e w'=>Made (.returned (.tuple #[.string (str (rcheckL t)),.int .i64 (rcheckE t:Nat)])) w e w':=by
  obtain ⟨pi,ci,rfl⟩:=hT.init.len
  obtain ⟨pt,ct,rfl,hlt⟩:=hT.threads.len
  obtain ⟨pa,ca,rfl,hla⟩:=hT.ask.len
  have hli:t.init.length<=1000000:=by obtain ⟨_,_,_,h⟩:=RowAt.len hT.init;exact h
  have hL:=Lib.hid (fun W (h:RtV W t (.slice pi t.init.length ci) (.slice pt t.threads.length ct) (.slice pa t.ask.length ca))=>locations_doc t _ _ _ W h)
  have HE:=Lib.hid (show rcheckE t=_ from rcheckE.eq_1 t)
  have HL:=Lib.hid (show rcheckL t=_ from rcheckL.eq_1 t)
  generalize rcheckE t=re at HE HL ⊢
  generalize rcheckL t=rl at HL ⊢
  generalize rlocsF t=lo at HE HL hL
  obtain ⟨li,lt,al,la⟩:=t
  simp only [rtCells] at hT hlt hla hli HE HL hL ⊢
  have hb:Below w.heap.size w (w.alloc (.cells #[.slice pi li.length ci,.slice pt lt.length ct,.bool al,.slice pa la.length ca] 37)):=(Below.refl _ _).alloc (Nat.le_refl _) _
  have HT:=Lib.hid (hT.below hb)
  have HBD:=Lib.hid hbd
  have HB0:=Lib.hid hb
  have HBX:=Lib.hid (Sits.new w 37 #[.slice pi li.length ci,.slice pt lt.length ct,.bool al,.slice pa la.length ca])
  have j1:(lt.length:Int)<=1000000:=by omega
  have j2:(li.length:Int)<=1000000:=by omega
  have j3:(la.length:Int)<=1000000:=by omega
  clear hT hb hla hlt hli hbd
  have one:∀ {b:Bool},re=1->(rl=[]):=fun h=>by rw [HL.out,if_neg (by omega)]
  have ONE:=Lib.hid (fun (h:re=1)=>(show rl=[] by rw [HL.out,if_neg (by omega)]))
  clear one
  by_cases h0:lt.length=0
  · have HF:=Lib.hid (show re=1 by rw [HE.out,if_pos h0])
    have n0:((lt.length:Int) == 0)=true:=beq_iff_eq.2 (by omega)
    clear h0
    go_enter Tryz.func17,Tryz.ntmps17
    go_wp2_with fail
    go_ret2
    exact ⟨by rw [HF.out,ONE.out HF.out];rfl,HB0.out⟩
  have n0:((lt.length:Int) == 0)=false:=beq_eq_false_iff_ne.2 (by omega)
  have he:=HE.out
  rw [if_neg h0] at he
  have HE:=Lib.hid he
  clear h0 he
  go_enter Tryz.func17,Tryz.ntmps17
  go_wp2_with fail
  generalize w.alloc (.cells #[.slice pi li.length ci,.slice pt lt.length ct,.bool al,.slice pa la.length ca] 37)=w1 at HT HB0 HBX ⊢
  generalize w.heap.size=gb at HBX ⊢
  refine (rex_any la true _ _ HT.out.ask).mono ?_
  rintro e w2 ⟨rfl,hb⟩
  have HB2:=Lib.hid hb
  clear hb
  cases hx:rexF la true with
  | false =>
    have HF:=Lib.hid (show re=1 by rw [HE.out,if_pos hx])
    clear hx
    go_wp2_with fail
    go_ret2
    exact ⟨by rw [HF.out,ONE.out HF.out];rfl,HB0.out.trans (HB2.out.mono HB0.out.size)⟩
  | true =>
  have he:=HE.out
  rw [if_neg (by rw [hx];simp)] at he
  have HE:=Lib.hid he
  have HI:=Lib.hid (show initsD [] li=initsD (li.take 0) (li.drop 0) by rw [List.take_zero,List.drop_zero])
  clear hx he
  go_wp2_with fail
  go_loopg [4] li.length (fun gg v4 wx=>∃ i,i<=li.length/\gg=li.length - i/\v4 = .int .i64 (i:Nat)/\Hid (initsD [] li=initsD (li.take i) (li.drop i))/\Hid (Below w1.heap.size w1 wx))
  case atStart=>exact ⟨0,by omega,by omega,rfl,HI,HB2⟩
  case round =>
    clear HI HB2
    obtain ⟨i,hi,rfl,rfl,HA,HBj⟩:=hrel
    have hbx:=HBX.out.below HBj.out HBX.out.lt
    have c0:wr.cell? ⟨gb,0,none⟩=some (.slice pi li.length ci):=hbx.cell 0
    have lb:=hbx.lt
    by_cases hil:i<li.length
    · have hx:li[i]? = some li[i]:=List.getElem?_eq_getElem hil
      generalize li[i]=x at hx
      have m1:(i:Int)<(li.length:Int):=by omega
      have m2:(0:Int)<=(i:Int):=by omega
      have hd:=HA.out
      rw [initsD_step hx] at hd
      have HD:=Lib.hid hd
      have HX:=Lib.hid hx
      have HK:=Lib.hid hil
      have htl:(li.take i).length=i:=by rw [List.length_take];omega
      have HTL:=Lib.hid htl
      have HP:=Lib.hid (show (li.take i).any (ipred x.1)=((li.take i).drop 0).any (ipred x.1) by rw [List.drop_zero])
      clear hx hil hi HA hd htl hbx
      go_wp2_with fail
      clear c0 lb
      go_loopg [5] i (fun gg v5 wx=>∃ k,k<=i/\gg=i - k/\v5 = .int .i64 (k:Nat)/\Hid ((li.take i).any (ipred x.1)=((li.take i).drop k).any (ipred x.1))/\Hid (Below w1.heap.size w1 wx))
      case atStart=>exact ⟨0,by omega,by omega,rfl,HP,HBj⟩
      case round =>
        clear HP HBj
        obtain ⟨k,hk,rfl,rfl,HA,HBj⟩:=hrel
        have hbx:=HBX.out.below HBj.out HBX.out.lt
        have c0:wr.cell? ⟨gb,0,none⟩=some (.slice pi li.length ci):=hbx.cell 0
        have lb:=hbx.lt
        obtain ⟨g,o,cap',e1,dx,_⟩:=(HT.out.below HBj.out).init.at HX.out
        injection e1 with e1 _ e2
        subst e1 e2
        by_cases hkl:k<i
        · have hy:li[k]? = some (li[k]'(by have:=HK.out;omega)):=List.getElem?_eq_getElem _
          generalize li[k]'(by have:=HK.out;omega)=y at hy
          have hyt:(li.take i)[k]? = some y:=by rw [List.getElem?_take,if_pos hkl];exact hy
          obtain ⟨g',o',cap'',e1,dy,_⟩:=(HT.out.below HBj.out).init.at hy
          injection e1 with e1 _ e2
          injection e1 with e1
          injection e1 with e3 e4
          subst e2 e3 e4
          have lg:=World.block_lt_of_cell? _ _ dx
          have p1:(k:Int)<(i:Int):=by omega
          have p0:(0:Int)<=(k:Int):=by omega
          have p2:(k:Int)<(li.length:Int):=by omega
          have hd:=HA.out
          rw [any_drop hyt] at hd
          have HKL:=Lib.hid hkl
          clear hy hyt hkl hk HA hbx
          by_cases hq:y.1=x.1
          · have HF:=Lib.hid (show re=1 by rw [HE.out,if_pos (by rw [HD.out,hd,show ipred x.1 y=true from decide_eq_true hq];rfl)])
            have q1:((y.1:Int) == (x.1:Int))=true:=beq_iff_eq.2 (by omega)
            clear hd hq
            go_wp2_with fail
            go_quiet (fail)
            go_wp2_with fail
            go_ret2
            exact ⟨by rw [HF.out,ONE.out HF.out];rfl,HB0.out.trans ((drw HBj.out).mono HB0.out.size)⟩
          · have HA2:=Lib.hid (show (li.take i).any (ipred x.1)=((li.take i).drop (k+1)).any (ipred x.1) by rw [hd,show ipred x.1 y=false from decide_eq_false hq,Bool.false_or])
            have q1:((y.1:Int) == (x.1:Int))=false:=beq_eq_false_iff_ne.2 (by omega)
            clear hd hq
            go_wp2_with fail
            go_quiet (fail)
            go_wp2_with fail
            go_roundg (i - (k+1))
            case measure=>have:=HKL.out;omega
            case rel=>exact ⟨k+1,HKL.out,rfl,by go_num,HA2,Lib.hid (HBj.out.trans ⟨rfl,rfl,rfl,Nat.le_refl _,fun _ _=>rfl⟩)⟩
        · obtain rfl:k=i:=by omega
          have hd:=HD.out
          rw [HA.out,List.drop_eq_nil_of_le (by rw [HTL.out];exact Nat.le_refl _),List.any_nil,Bool.not_false,Bool.true_and] at hd
          have lg:=World.block_lt_of_cell? _ _ dx
          have p1:¬ ((k:Int)<(k:Int)):=by omega
          clear hkl hk HA hbx
          go_wp2_with fail
          refine (rloc_any x.1 _).mono ?_
          rintro e w' ⟨rfl,rfl⟩
          cases hl:isLoc x.1 with
          | false =>
            have HF:=Lib.hid (show re=1 by rw [HE.out,if_pos (by rw [hd,hl];rfl)])
            clear hl hd
            go_wp2_with fail
            go_ret2
            exact ⟨by rw [HF.out,ONE.out HF.out];rfl,HB0.out.trans (HBj.out.mono HB0.out.size)⟩
          | true =>
            rw [hl,Bool.true_and] at hd
            have HD2:=Lib.hid hd
            clear hl hd
            go_wp2_with fail
            go_roundg (li.length - (k+1))
            case measure=>have:=HK.out;omega
            case rel=>exact ⟨k+1,HK.out,rfl,by go_num,HD2,HBj⟩
    · obtain rfl:i=li.length:=by omega
      have m1:¬ ((li.length:Int)<(li.length:Int)):=by omega
      have he:=HE.out
      rw [if_neg (by rw [HA.out,List.drop_length,initsD];simp)] at he
      have HE:=Lib.hid he
      clear hil hi he hbx
      go_wp2_with fail
      have HM:=Lib.hid (show lt.all marksD=(lt.drop 0).all marksD by rw [List.drop_zero])
      go_loopg [6] lt.length (fun gg v6 wx=>∃ j,j<=lt.length/\gg=lt.length - j/\v6 = .int .i64 (j:Nat)/\Hid (lt.all marksD=(lt.drop j).all marksD)/\Hid (Below w1.heap.size w1 wx))
      case atStart=>exact ⟨0,by omega,by omega,rfl,HM,HBj⟩
      case round =>
        clear HM HBj c0 lb
        obtain ⟨j,hj,rfl,rfl,HA,HBj⟩:=hrel
        have hbx:=HBX.out.below HBj.out HBX.out.lt
        have c1:wr.cell? ⟨gb,1,none⟩=some (.slice pt lt.length ct):=hbx.cell 1
        have lb:=hbx.lt
        by_cases hjl:j<lt.length
        · have hx:lt[j]? = some lt[j]:=List.getElem?_eq_getElem hjl
          generalize lt[j]=l at hx
          obtain ⟨g,o,cap',u,e1,_,hc,hm⟩:=((HT.out.below HBj.out).threads).at hx
          injection e1 with e1 _ e2
          subst e1 e2
          obtain ⟨pl,cl,rfl,hll⟩:=hm.len
          have HC:=Lib.hid hc
          have HMR:=Lib.hid hm
          have m1:(j:Int)<(lt.length:Int):=by omega
          have m2:(0:Int)<=(j:Int):=by omega
          have m3:(l.length:Int)<=1000000:=by omega
          have hd:=HA.out
          rw [all_dropG hx] at hd
          have HD:=Lib.hid (show lt.all marksD=((l.drop 0).all rmarkF && (lt.drop (j+1)).all marksD) by rw [hd,List.drop_zero];rfl)
          have HJ:=Lib.hid hjl
          clear hx hm hc hll hjl hj hbx HA hd
          go_wp2_with fail
          clear c1 lb
          generalize wr=w4 at HC HMR HBj ⊢
          go_loopg [7] l.length (fun gg v7 wx=>∃ k,k<=l.length/\gg=l.length - k/\v7 = .int .i64 (k:Nat)/\Hid (Below w1.heap.size w1 wx)/\Hid (Below w4.heap.size w4 wx)/\Hid (lt.all marksD=((l.drop k).all rmarkF && (lt.drop (j+1)).all marksD)))
          case atStart=>exact ⟨0,by omega,by omega,rfl,HBj,Lib.hid (Below.refl _ _),HD⟩
          case round =>
            clear HD
            obtain ⟨k,hk,rfl,rfl,HBk,HBk4,HG⟩:=hrel
            have hbx:=HBX.out.below HBk.out HBX.out.lt
            have c1:wr.cell? ⟨gb,1,none⟩=some (.slice (some ⟨g,o,none⟩) lt.length ct):=hbx.cell 1
            have lb:=hbx.lt
            have hcc:wr.cell? ⟨g,o+j,none⟩=some (.slice pl l.length cl):=cell_below (U:=any_) HBk4.out g trivial _ _ HC.out
            have lg:=World.block_lt_of_cell? _ _ hcc
            by_cases hkl:k<l.length
            · have hx:l[k]? = some l[k]:=List.getElem?_eq_getElem hkl
              generalize l[k]=x at hx
              obtain ⟨g5,o5,cap5,av,bv,e1,_,hmk⟩:=(HMR.out.below HBk4.out).at hx
              injection e1 with e1 _ e2
              subst e1 e2
              obtain ⟨d0,d1,d2,d3,d4,d5,hra,hrb⟩:=hmk
              have hpm:=mark_any x av bv wr hra hrb
              simp only [mkAgg] at hpm
              have HPM:=Lib.hid hpm
              obtain ⟨pa',ca',rfl,_⟩:=hra.len
              obtain ⟨pb',cb',rfl,_⟩:=hrb.len
              have lg5:=World.block_lt_of_cell? _ _ d0
              have p1:(k:Int)<(l.length:Int):=by omega
              have p0:(0:Int)<=(k:Int):=by omega
              have hd:=HG.out
              rw [all_drop2 hx] at hd
              have HD:=Lib.hid hd
              have HK:=Lib.hid hkl
              clear hx hra hrb hkl hk hpm hd HG hbx
              go_wp2_with fail
              refine HPM.out.mono ?_
              rintro e w5 ⟨rfl,hb⟩
              have HBk':=Lib.hid (HBk.out.trans (hb.mono HBk.out.size))
              have HBk4':=Lib.hid (HBk4.out.trans (hb.mono HBk4.out.size))
              clear hb d0 d1 d2 d3 d4 d5 c1 hcc lb lg lg5
              cases hm:rmarkF x with
              | false =>
                have HF:=Lib.hid (show re=1 by rw [HE.out,if_pos (by rw [HD.out,hm];rfl)])
                clear hm
                go_wp2_with fail
                go_ret2
                exact ⟨by rw [HF.out,ONE.out HF.out];rfl,HB0.out.trans (HBk'.out.mono HB0.out.size)⟩
              | true =>
                have HD2:=Lib.hid (show lt.all marksD=((l.drop (k+1)).all rmarkF && (lt.drop (j+1)).all marksD) by rw [HD.out,hm,Bool.true_and])
                clear hm
                go_wp2_with fail
                go_roundg (l.length - (k+1))
                case measure=>have:=HK.out;omega
                case rel=>exact ⟨k+1,HK.out,rfl,by go_num,HBk',HBk4',HD2⟩
            · obtain rfl:k=l.length:=by omega
              have p1:¬ ((l.length:Int)<(l.length:Int)):=by omega
              have HD2:=Lib.hid (show lt.all marksD=(lt.drop (j+1)).all marksD by rw [HG.out,List.drop_length,List.all_nil,Bool.true_and])
              clear hkl hk hbx
              go_wp2_with fail
              go_roundg (lt.length - (j+1))
              case measure=>have:=HJ.out;omega
              case rel=>exact ⟨j+1,HJ.out,rfl,by go_num,HD2,HBk⟩
        · obtain rfl:j=lt.length:=by omega
          have m1:¬ ((lt.length:Int)<(lt.length:Int)):=by omega
          have he:=HE.out
          rw [if_neg (by rw [HA.out,List.drop_length];simp)] at he
          have c0:wr.cell? ⟨gb,0,none⟩=some (.slice pi li.length ci):=hbx.cell 0
          have c2:wr.cell? ⟨gb,2,none⟩=some (.bool al):=hbx.cell 2
          have c3:wr.cell? ⟨gb,3,none⟩=some (.slice pa la.length ca):=hbx.cell 3
          have HLW:=Lib.hid (hL.out wr (HT.out.below HBj.out))
          have HBXj:=Lib.hid hbx
          have HE:=Lib.hid he
          clear hjl hj HA he hbx
          go_wp2_with fail
          refine HLW.out.mono ?_
          rintro e w5 ⟨rfl,hb⟩
          have HB5:=Lib.hid (HBj.out.trans (hb.mono HBj.out.size))
          have hby:=HBXj.out.below hb HBXj.out.lt
          have c1':w5.cell? ⟨gb,1,none⟩=some (.slice pt lt.length ct):=hby.cell 1
          have c3':w5.cell? ⟨gb,3,none⟩=some (.slice pa la.length ca):=hby.cell 3
          have lb':=hby.lt
          have HS:=Lib.hid (strSize lo)
          clear c0 c1 c2 c3 lb hb hby HBj HLW hL
          have FOUR:=Lib.hid (fun (h:re=4)=>(show rl=[] by rw [HL.out,if_neg (by omega)]))
          by_cases h4:4<lt.length
          · have HF:=Lib.hid (show re=4 by rw [HE.out,if_pos h4])
            have n4:(4:Int)<(lt.length:Int):=by omega
            clear h4
            go_wp2_with fail
            go_ret2
            exact ⟨by rw [HF.out,FOUR.out HF.out];rfl,HB0.out.trans (HB5.out.mono HB0.out.size)⟩
          have n4:¬ ((4:Int)<(lt.length:Int)):=by omega
          have he:=HE.out
          rw [if_neg h4] at he
          clear HE h4
          by_cases h5:4<lo.length
          · have HF:=Lib.hid (show re=4 by rw [he,if_pos h5])
            have n5:(4:Int)<((str lo).size:Int):=by have:=HS.out;omega
            clear h5 he
            go_wp2_with fail
            go_ret2
            exact ⟨by rw [HF.out,FOUR.out HF.out];rfl,HB0.out.trans (HB5.out.mono HB0.out.size)⟩
          have n5:¬ ((4:Int)<((str lo).size:Int)):=by have:=HS.out;omega
          rw [if_neg h5] at he
          have HE:=Lib.hid he
          have HN:=Lib.hid (show la.any (npred lt.length)=(la.drop 0).any (npred lt.length) by rw [List.drop_zero])
          have HRL:=Lib.hid HL.out
          clear he h5
          go_wp2_with fail
          clear c1' c3' lb'
          go_loopg [9] la.length (fun gg v9 wx=>∃ k,k<=la.length/\gg=la.length - k/\v9 = .int .i64 (k:Nat)/\Hid (la.any (npred lt.length)=(la.drop k).any (npred lt.length))/\Hid (Below w1.heap.size w1 wx))
          case atStart=>exact ⟨0,by omega,by omega,rfl,HN,HB5⟩
          case round =>
            clear HN HB5
            obtain ⟨k,hk,rfl,rfl,HA,HBj⟩:=hrel
            have hbx:=HBX.out.below HBj.out HBX.out.lt
            have c1:wr.cell? ⟨gb,1,none⟩=some (.slice pt lt.length ct):=hbx.cell 1
            have c3:wr.cell? ⟨gb,3,none⟩=some (.slice pa la.length ca):=hbx.cell 3
            have lb:=hbx.lt
            by_cases hkl:k<la.length
            · have hx:la[k]? = some la[k]:=List.getElem?_eq_getElem hkl
              have hab:la[k].t<256:=(HBD.out.ask la[k] (List.getElem_mem _)).2.2.2.1
              generalize la[k]=x at hx hab
              obtain ⟨g,o,cap',e1,_,_,hit⟩:=(HT.out.below HBj.out).ask.item hx
              injection e1 with e1 _ e2
              subst e1 e2
              obtain ⟨d0,_,_,d3,_,_⟩:=hit
              have lg:=World.block_lt_of_cell? _ _ d0
              have p1:(k:Int)<(la.length:Int):=by omega
              have p0:(0:Int)<=(k:Int):=by omega
              have t1:(x.t:Int)<=255:=by omega
              have hd:=HA.out
              rw [any_drop hx] at hd
              have HK:=Lib.hid hkl
              clear hx hkl hk HA hbx hab
              by_cases h2:x.kind=2
              · have q3:((x.kind:Int) == 2)=true:=beq_iff_eq.2 (by omega)
                by_cases hn:lt.length<=x.t
                · have HF:=Lib.hid (show re=7 by rw [HE.out,if_pos (by rw [hd,show npred lt.length x=true by rw [npred,decide_eq_true h2,decide_eq_true hn];rfl,Bool.true_or])])
                  have HF2:=Lib.hid (show rl=[] by rw [HL.out,if_neg (by rw [HF.out];omega)])
                  have q1:(lt.length:Int)<=(x.t:Int):=by omega
                  clear hd hn h2
                  go_wp2_with fail
                  go_quiet (fail)
                  go_wp2_with fail
                  go_ret2
                  exact ⟨by rw [HF.out,HF2.out];rfl,HB0.out.trans ((drw HBj.out).mono HB0.out.size)⟩
                · have HD:=Lib.hid (show la.any (npred lt.length)=(la.drop (k+1)).any (npred lt.length) by rw [hd,show npred lt.length x=false by rw [npred,decide_eq_false hn,Bool.and_false],Bool.false_or])
                  have q1:¬ ((lt.length:Int)<=(x.t:Int)):=by omega
                  clear hd hn h2
                  go_wp2_with fail
                  go_quiet (fail)
                  go_wp2_with fail
                  go_roundg (la.length - (k+1))
                  case measure=>have:=HK.out;omega
                  case rel=>exact ⟨k+1,HK.out,rfl,by go_num,HD,Lib.hid (HBj.out.trans ⟨rfl,rfl,rfl,Nat.le_refl _,fun _ _=>rfl⟩)⟩
              · have q3:((x.kind:Int) == 2)=false:=beq_eq_false_iff_ne.2 (by omega)
                have HD:=Lib.hid (show la.any (npred lt.length)=(la.drop (k+1)).any (npred lt.length) by rw [hd,show npred lt.length x=false by rw [npred,decide_eq_false h2,Bool.false_and],Bool.false_or])
                clear hd h2
                go_wp2_with fail
                go_quiet (fail)
                go_wp2_with fail
                go_roundg (la.length - (k+1))
                case measure=>have:=HK.out;omega
                case rel=>exact ⟨k+1,HK.out,rfl,by go_num,HD,Lib.hid (HBj.out.trans ⟨rfl,rfl,rfl,Nat.le_refl _,fun _ _=>rfl⟩)⟩
            · obtain rfl:k=la.length:=by omega
              have p1:¬ ((la.length:Int)<(la.length:Int)):=by omega
              have HF:=Lib.hid (show re=0 by rw [HE.out,if_neg (by rw [HA.out,List.drop_length];simp)])
              have HF2:=Lib.hid (show rl=lo by rw [HL.out,if_pos HF.out])
              clear hkl hk HA hbx
              go_wp2_with fail
              go_ret2
              exact ⟨by rw [HF.out,HF2.out];rfl,HB0.out.trans (HBj.out.mono HB0.out.size)⟩
end Go.Proofs.YtbkdappgmcebaaaGreatDoor.Chk
end
