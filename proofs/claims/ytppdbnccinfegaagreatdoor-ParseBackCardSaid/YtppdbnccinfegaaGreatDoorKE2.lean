/- Part 43 of the proof: what is used of the texts PbkV. -/
import Derived.Test.YtppdbnccinfegaaGreatDoorKE1
section
namespace Go.Proofs.YtppdbnccinfegaaGreatDoor.Prs
open Go.RowKit Go.Proofs.YtppdbnccinfegaaGreatDoor.Mem Go.Proofs.YtppdbnccinfegaaGreatDoor.Expr Go.Proofs.YtppdbnccinfegaaGreatDoor.Prog Go.Lib
def MayBe (al:Bool) (vi vt va:Value) (w:World) (t:Rt):Prop:=t.all=al/\RtV w t vi vt va/\t.meek/\t.bd/\t.flat/\t.propB/\PlainT t
def MayMade (al:Bool) (vi vt va:Value) (w:World) (e:Ending) (w':World):Prop:=∃ z,e = .returned (.bool z)/\Below w.heap.size w w' /\ (z=true->∃ t,MayBe al vi vt va w t)
theorem may_no {al:Bool} {vi vt va:Value} {w w':World} (h:Below w.heap.size w w'):MayMade al vi vt va w (.returned (.bool false)) w':=⟨false,rfl,h,fun h=>by cases h⟩
set_option maxRecDepth 100000 in
set_option maxHeartbeats 4000000 in
theorem may_any (pi:Option Addr) (ni ci:Nat) (pt:Option Addr) (nt ct:Nat) (al:Bool) (pa:Option Addr) (na ca:Nat) (w:World) (hS:ArgV w pi ni ci pt nt ct al pa na ca) :
    Calls Tryz.prog 16 #[.agg #[.slice pi ni ci,.slice pt nt ct,.bool al,.slice pa na ca]] w (MayMade al (.slice pi ni ci) (.slice pt nt ct) (.slice pa na ca) w):=by
  have hb:Below w.heap.size w (w.alloc (.cells #[.slice pi ni ci,.slice pt nt ct,.bool al,.slice pa na ca] 37)):=(Below.refl _ _).alloc (Nat.le_refl _) _
  have HB0:=Lib.hid hb
  have HBX:=Lib.hid (Sits.new w 37 #[.slice pi ni ci,.slice pt nt ct,.bool al,.slice pa na ca])
  have HS:=Lib.hid hS
  clear hb hS
  go_enter Tryz.func16,Tryz.ntmps16
  go_wp2_with fail
  generalize w.alloc (.cells #[.slice pi ni ci,.slice pt nt ct,.bool al,.slice pa na ca] 37)=w0 at HB0 HBX ⊢
  generalize hgb:w.heap.size=gb at HBX ⊢
  have HGB:=Lib.hid hgb
  clear hgb
  refine (great_raw pi ni ci pt nt ct al pa na ca w0 HS.out.bi HS.out.bt HS.out.ba (HS.out.raw.below HB0.out)).mono ?_
  rintro e w1 ⟨z,rfl,hz,hb⟩
  have HB1:=Lib.hid (HB0.out.trans (hb.mono HB0.out.size))
  have HX1:=Lib.hid (HBX.out.below hb HBX.out.lt)
  have HZ:=Lib.hid hz
  clear hb hz
  have a0:=HX1.out.cell 0
  have a1:=HX1.out.cell 1
  have a2:=HX1.out.cell 2
  have a3:=HX1.out.cell 3
  have la:=HX1.out.lt
  cases z
  case true =>
    go_wp2_with fail
    go_ret
    exact may_no HB1.out
  have hg:=(HZ.out rfl).back HB0.out
  obtain ⟨⟨li,lt,al',lq⟩,et,vt,mt,bt1,bt2,bt3⟩:=HS.out.read hg
  obtain rfl:al' = al:=et
  clear HZ hg HS
  have HV:=Lib.hid vt
  have HM:=Lib.hid mt
  have HD:=Lib.hid (show Rt.bd ⟨li,lt,al',lq⟩ from ⟨bt1,bt2,bt3⟩)
  have e1:ni=li.length:=by obtain ⟨_,_,e1⟩:=vt.init.len;injection e1
  have e2:nt=lt.length:=by obtain ⟨_,_,e2,_⟩:=vt.threads.len;injection e2
  have e3:na=lq.length:=by obtain ⟨_,_,e3,_⟩:=vt.ask.len;injection e3
  obtain rfl:ni=li.length:=e1
  obtain rfl:nt=lt.length:=e2
  obtain rfl:na=lq.length:=e3
  have j1:(lt.length:Int)<=8:=by have:=mt.threads;simp only at this;omega
  have j2:(li.length:Int)<=10:=by have:=mt.init;simp only at this;omega
  have j3:(lq.length:Int)<=30:=by have:=mt.ask;simp only at this;omega
  clear vt mt bt1 bt2 bt3
  go_wp2_with fail
  clear a0 a1 a2 a3 la
  refine (shallow_any ⟨li,lt,al',lq⟩ (.slice pi li.length ci) (.slice pt lt.length ct) (.slice pa lq.length ca) w1 (HV.out.below HB1.out)).mono ?_
  rintro e w2 ⟨z,rfl,hz,hb⟩
  have HB2:=Lib.hid (HB1.out.trans (hb.mono HB1.out.size))
  have HX2:=Lib.hid (HX1.out.below hb HX1.out.lt)
  have HZ:=Lib.hid hz
  clear hb hz
  have a0:=HX2.out.cell 0
  have a1:=HX2.out.cell 1
  have a2:=HX2.out.cell 2
  have a3:=HX2.out.cell 3
  have la:=HX2.out.lt
  cases z
  case false =>
    go_wp2_with fail
    go_ret
    exact may_no HB2.out
  have HFL:=Lib.hid (HZ.out rfl)
  clear HZ
  go_wp2_with fail
  clear a0 a1 a2 a3 la
  refine (Proper_any ⟨li,lt,al',lq⟩ HD.out HM.out (.slice pi li.length ci) (.slice pt lt.length ct) (.slice pa lq.length ca) w2 (HV.out.below HB2.out)).mono ?_
  rintro e w3 ⟨z,rfl,hz,hb⟩
  have HB3:=Lib.hid (HB2.out.trans (hb.mono HB2.out.size))
  have HX3:=Lib.hid (HX2.out.below hb HX2.out.lt)
  have HZ:=Lib.hid hz
  clear hb hz
  have a0:=HX3.out.cell 0
  have a1:=HX3.out.cell 1
  have a2:=HX3.out.cell 2
  have a3:=HX3.out.cell 3
  have la:=HX3.out.lt
  cases z
  case false =>
    go_wp2_with fail
    go_ret
    exact may_no HB3.out
  have HPR:=Lib.hid (HZ.out rfl)
  clear HZ
  by_cases h4:(4:Int)<(lt.length:Int)
  · go_wp2_with fail
    go_ret
    exact may_no HB3.out
  have HFW:=Lib.hid (show lt.length<=4 by omega)
  go_wp2_with fail
  clear HX2 HX1 HBX HB0 HB1 HB2 a0 a1 a2 a3 la h4
  have HVI:=Lib.hid (HV.out.below HB3.out).init
  have HVT:=Lib.hid (HV.out.below HB3.out).threads
  have HVA:=Lib.hid (HV.out.below HB3.out).ask
  have HLN:=Lib.hid (fun (i:Nat) (l:List Prog.Mark) (h:lt[i]? = some l)=>HM.out.each i l h)
  go_loopg [3] lq.length (fun gg v3 wx=>∃ j,j<=lq.length/\gg=lq.length - j/\v3 = .int .i64 (j:Nat)/\Hid (Below w3.heap.size w3 wx)/\Hid (∀ (i:Nat) (x:It),i<j->lq[i]? = some x->x.kind≠1))
  case atStart=>exact ⟨0,by omega,by omega,rfl,Lib.hid (Below.refl _ _),Lib.hid fun i l h=>by omega⟩
  case round =>
    obtain ⟨j,hj,rfl,rfl,HBj,HF⟩:=hrel
    have hbx:=HX3.out.below HBj.out HX3.out.lt
    have c3:wr.cell? ⟨gb,3,none⟩=some (.slice pa lq.length ca):=hbx.cell 3
    have lb:=hbx.lt
    by_cases hlt:j<lq.length
    · have hx:lq[j]? = some lq[j]:=List.getElem?_eq_getElem hlt
      generalize lq[j]=x at hx
      obtain ⟨g,o,cap',e1,_,_,hit⟩:=(HVA.out.below HBj.out).item hx
      injection e1 with e1 _ e2
      subst e1 e2
      have d0:=hit.1
      have lg:=hit.lt
      have m1:(j:Int)<(lq.length:Int):=by omega
      have m2:(0:Int)<=(j:Int):=by omega
      have HX:=Lib.hid hx
      have HJ:=Lib.hid hlt
      clear hx hlt hj hbx hit
      by_cases h1:(x.kind:Int)=1
      · go_wp2_with fail
        go_ret
        exact may_no (HB3.out.trans (HBj.out.mono HB3.out.size))
      · have HK1:=Lib.hid (show x.kind≠1 by omega)
        go_wp2_with fail
        go_roundg (lq.length - (j+1))
        case measure=>have:=HJ.out;omega
        case rel=>exact ⟨j+1,HJ.out,rfl,by go_num,HBj,Lib.hid fun i y hi hy=>by
          by_cases e:i<j
          · exact HF.out i y e hy
          · obtain rfl:i=j:=by omega
            rw [HX.out] at hy;cases hy;exact HK1.out⟩
    · obtain rfl:j=lq.length:=by omega
      have m1:¬ ((lq.length:Int)<(lq.length:Int)):=by omega
      have HASK:=Lib.hid (fun (x:It) (hx:x ∈ lq)=>by obtain ⟨i,hi⟩:=List.getElem?_of_mem hx;exact HF.out i x (List.getElem?_eq_some_iff.1 hi).1 hi)
      clear hlt hj hbx HF
      go_wp2_with fail
      clear c3 m1 lb
      generalize wr=w4 at HBj ⊢
      go_loopg [4] li.length (fun gg v4 wx=>∃ j,j<=li.length/\gg=li.length - j/\v4 = .int .i64 (j:Nat)/\Hid (Below w3.heap.size w3 wx)/\Hid (∀ (i:Nat) (x:Nat × Nat),i<j->li[i]? = some x->x.1≠114))
      case atStart=>exact ⟨0,by omega,by omega,rfl,HBj,Lib.hid fun i l h=>by omega⟩
      case round =>
        obtain ⟨j,hj,rfl,rfl,HBj,HF⟩:=hrel
        have hbx:=HX3.out.below HBj.out HX3.out.lt
        have c0:wr.cell? ⟨gb,0,none⟩=some (.slice pi li.length ci):=hbx.cell 0
        have lb:=hbx.lt
        by_cases hlt:j<li.length
        · have hx:li[j]? = some li[j]:=List.getElem?_eq_getElem hlt
          generalize li[j]=x at hx
          obtain ⟨g,o,cap',e1,d0,_⟩:=(HVI.out.below HBj.out).at hx
          injection e1 with e1 _ e2
          subst e1 e2
          have lg:=World.block_lt_of_cell? _ _ d0
          have m1:(j:Int)<(li.length:Int):=by omega
          have m2:(0:Int)<=(j:Int):=by omega
          have HX:=Lib.hid hx
          have HJ:=Lib.hid hlt
          clear hx hlt hj hbx
          by_cases h1:(x.1:Int)=114
          · go_wp2_with fail
            go_ret
            exact may_no (HB3.out.trans (HBj.out.mono HB3.out.size))
          · have HK1:=Lib.hid (show x.1≠114 by omega)
            go_wp2_with fail
            go_roundg (li.length - (j+1))
            case measure=>have:=HJ.out;omega
            case rel=>exact ⟨j+1,HJ.out,rfl,by go_num,HBj,Lib.hid fun i y hi hy=>by
              by_cases e:i<j
              · exact HF.out i y e hy
              · obtain rfl:i=j:=by omega
                rw [HX.out] at hy;cases hy;exact HK1.out⟩
        · obtain rfl:j=li.length:=by omega
          have m1:¬ ((li.length:Int)<(li.length:Int)):=by omega
          have HIN:=Lib.hid (fun (x:Nat × Nat) (hx:x ∈ li)=>by obtain ⟨i,hi⟩:=List.getElem?_of_mem hx;exact HF.out i x (List.getElem?_eq_some_iff.1 hi).1 hi)
          clear hlt hj hbx HF
          go_wp2_with fail
          clear c0 m1 lb
          generalize wr=w5 at HBj ⊢
          go_loopg [5] lt.length (fun gg v5 wx=>∃ j,j<=lt.length/\gg=lt.length - j/\v5 = .int .i64 (j:Nat)/\Hid (Below w3.heap.size w3 wx)/\Hid (∀ (i:Nat) (l:List Prog.Mark),i<j->lt[i]? = some l->∀ x ∈ l,PlainM x))
          case atStart=>exact ⟨0,by omega,by omega,rfl,HBj,Lib.hid fun i l h=>by omega⟩
          case round =>
            obtain ⟨j,hj,rfl,rfl,HBj,HF⟩:=hrel
            have hbx:=HX3.out.below HBj.out HX3.out.lt
            have c1:wr.cell? ⟨gb,1,none⟩=some (.slice pt lt.length ct):=hbx.cell 1
            have lb:=hbx.lt
            by_cases hlt:j<lt.length
            · have hx:lt[j]? = some lt[j]:=List.getElem?_eq_getElem hlt
              generalize lt[j]=l at hx
              obtain ⟨g,o,cap',u,e1,_,hc,hm⟩:=(HVT.out.below HBj.out).at hx
              injection e1 with e1 _ e2
              subst e1 e2
              obtain ⟨pl,cl,rfl,hll⟩:=hm.len
              have HC:=Lib.hid hc
              have HMR:=Lib.hid hm
              have m1:(j:Int)<(lt.length:Int):=by omega
              have m2:(0:Int)<=(j:Int):=by omega
              have m3:(l.length:Int)<=60:=by have:=(HLN.out j l hx).1;omega
              have HSL:=Lib.hid (HLN.out j l hx).2
              have HX:=Lib.hid hx
              have HJ:=Lib.hid hlt
              clear hx hm hc hll hlt hj hbx
              go_wp2_with fail
              clear c1 lb
              generalize wr=w6 at HC HMR HBj ⊢
              go_loopg [6] l.length (fun gg v6 wx=>∃ k,k<=l.length/\gg=l.length - k/\v6 = .int .i64 (k:Nat)/\Hid (Below w3.heap.size w3 wx)/\Hid (Below w6.heap.size w6 wx)/\Hid (∀ (i:Nat) (x:Prog.Mark),i<k->l[i]? = some x->PlainM x))
              case atStart=>exact ⟨0,by omega,by omega,rfl,HBj,Lib.hid (Below.refl _ _),Lib.hid fun i x h=>by omega⟩
              case round =>
                obtain ⟨k,hk,rfl,rfl,HBk,HBk6,HG⟩:=hrel
                have hbx:=HX3.out.below HBk.out HX3.out.lt
                have c1:wr.cell? ⟨gb,1,none⟩=some (.slice (some ⟨g,o,none⟩) lt.length ct):=hbx.cell 1
                have lb:=hbx.lt
                have hcc:wr.cell? ⟨g,o+j,none⟩=some (.slice pl l.length cl):=cell_below (U:=any_) HBk6.out g trivial _ _ HC.out
                have lg:=World.block_lt_of_cell? _ _ hcc
                by_cases hkl:k<l.length
                · have hx:l[k]? = some l[k]:=List.getElem?_eq_getElem hkl
                  generalize l[k]=x at hx
                  obtain ⟨g5,o5,cap5,av,bv,e1,_,hmk⟩:=(HMR.out.below HBk6.out).at hx
                  injection e1 with e1 _ e2
                  subst e1 e2
                  obtain ⟨d0,d1,d2,d3,d4,d5,hra,hrb⟩:=hmk
                  obtain ⟨pa',ca',rfl,_⟩:=hra.len
                  obtain ⟨pb',cb',rfl,_⟩:=hrb.len
                  have lg5:=World.block_lt_of_cell? _ _ d0
                  have p1:(k:Int)<(l.length:Int):=by omega
                  have p0:(0:Int)<=(k:Int):=by omega
                  have s1:(x.a.length:Int)<=30:=by have:=(HSL.out k x hx).1;omega
                  have s2:(x.b.length:Int)<=30:=by have:=(HSL.out k x hx).2;omega
                  have hwr:Below wr.heap.size wr (wr.alloc (.cells #[.int .u8 x.kind,.int .u8 x.reg,.int .u8 x.mode,.int .u8 x.loc,.slice pa' x.a.length ca',.slice pb' x.b.length cb'] 167)):=(Below.refl _ _).alloc (Nat.le_refl _) _
                  have HRA:=Lib.hid (hra.below hwr)
                  have HRB:=Lib.hid (hrb.below hwr)
                  have HBM:=Lib.hid (Sits.new wr 167 #[.int .u8 x.kind,.int .u8 x.reg,.int .u8 x.mode,.int .u8 x.loc,.slice pa' x.a.length ca',.slice pb' x.b.length cb'])
                  have HBn:=Lib.hid (HBk.out.trans (hwr.mono HBk.out.size))
                  have HBn6:=Lib.hid (HBk6.out.trans (hwr.mono HBk6.out.size))
                  have HX2:=Lib.hid hx
                  have HK:=Lib.hid hkl
                  clear hx hra hrb hkl hk hbx hwr
                  go_wp2_with fail
                  clear d0 d1 d2 d3 d4 d5 c1 hcc lb lg lg5 p0
                  generalize wr.alloc (.cells #[.int .u8 x.kind,.int .u8 x.reg,.int .u8 x.mode,.int .u8 x.loc,.slice pa' x.a.length ca',.slice pb' x.b.length cb'] 167)=w7 at HRA HRB HBM HBn HBn6 ⊢
                  generalize wr.heap.size=gx at HBM ⊢
                  have hws:IntKind.i64.wrap ((x.a.length:Int)+(x.b.length:Int))=(x.a.length:Int)+(x.b.length:Int):=IntWalk.i64_in _ (by omega)
                  go_loopg [8] (x.a.length+x.b.length) (fun gg v8 wx=>∃ i,i<=x.a.length+x.b.length/\gg=x.a.length+x.b.length - i/\v8 = .int .i64 (i:Nat)/\Hid (Below w7.heap.size w7 wx)/\Hid (∀ (q:Nat) (y:It),q<i->(x.a ++ x.b)[q]? = some y->y.kind≠2/\y.kind≠3))
                  case atStart=>exact ⟨0,by omega,by omega,rfl,Lib.hid (Below.refl _ _),Lib.hid fun i x h=>by omega⟩
                  case round =>
                    obtain ⟨i,hi,rfl,rfl,HBi,HI⟩:=hrel
                    have hbm:=HBM.out.below HBi.out HBM.out.lt
                    have b1:=hbm.cell 1
                    have b3:=hbm.cell 3
                    have b4:=hbm.cell 4
                    have b5:=hbm.cell 5
                    have lb:=hbm.lt
                    have HBF:=Lib.hid (HBn.out.trans (HBi.out.mono HBn.out.size))
                    have HBF6:=Lib.hid (HBn6.out.trans (HBi.out.mono HBn6.out.size))
                    have p0:(0:Int)<=(i:Int):=by omega
                    clear hbm
                    by_cases hil:i<x.a.length
                    · have hx:x.a[i]? = some x.a[i]:=List.getElem?_eq_getElem (by omega)
                      generalize x.a[i]=y at hx
                      obtain ⟨g6,o6,cap6,e1,_,_,hit⟩:=(HRA.out.below HBi.out).item hx
                      injection e1 with e1 _ e2
                      subst e1 e2
                      have t0:=hit.1
                      have lg6:=hit.lt
                      have HY:=Lib.hid (show (x.a ++ x.b)[i]? = some y by rw [List.getElem?_append_left hil];exact hx)
                      have p1:(i:Int)<(x.a.length:Int)+(x.b.length:Int):=by omega
                      have p2:(i:Int)<(x.a.length:Int):=by omega
                      have HI1:=Lib.hid (show i+1<=x.a.length+x.b.length by omega)
                      clear hx hit hi hil
                      by_cases h2:(y.kind:Int)=2
                      · go_wp2_with fail
                        go_ret
                        exact may_no (HB3.out.trans (HBF.out.mono HB3.out.size))
                      by_cases h3:(y.kind:Int)=3
                      · go_wp2_with fail
                        go_ret
                        exact may_no (HB3.out.trans (HBF.out.mono HB3.out.size))
                      have hb2:((y.kind:Int) == 2)=false:=by simpa using h2
                      have hb3:((y.kind:Int) == 3)=false:=by simpa using h3
                      have HYK:=Lib.hid (show y.kind≠2/\y.kind≠3 from ⟨by omega,by omega⟩)
                      go_wp2_with fail
                      go_roundg (x.a.length+x.b.length - (i+1))
                      case measure=>have:=HI1.out;omega
                      case rel=>exact ⟨i+1,HI1.out,rfl,by go_num,HBi,Lib.hid fun q z hq hz=>by
                        by_cases e:q<i
                        · exact HI.out q z e hz
                        · obtain rfl:q=i:=by omega
                          rw [HY.out] at hz;cases hz;exact HYK.out⟩
                    by_cases hil2:i<x.a.length+x.b.length
                    · have hx:x.b[i - x.a.length]? = some x.b[i - x.a.length]:=List.getElem?_eq_getElem (by omega)
                      generalize x.b[i - x.a.length]=y at hx
                      obtain ⟨g6,o6,cap6,e1,_,_,hit⟩:=(HRB.out.below HBi.out).item hx
                      injection e1 with e1 _ e2
                      subst e1 e2
                      have t0:=hit.1
                      have lg6:=hit.lt
                      have HY:=Lib.hid (show (x.a ++ x.b)[i]? = some y by rw [List.getElem?_append_right (by omega)];exact hx)
                      have p1:(i:Int)<(x.a.length:Int)+(x.b.length:Int):=by omega
                      have p2:¬ ((i:Int)<(x.a.length:Int)):=by omega
                      have hw1:IntKind.i64.wrap ((i:Int) - (x.a.length:Int))=((i - x.a.length:Nat):Int):=by rw [IntWalk.i64_in _ (by omega)];omega
                      have p3:((i - x.a.length:Nat):Int)<(x.b.length:Int):=by omega
                      have p4:(0:Int)<=((i - x.a.length:Nat):Int):=by omega
                      generalize i - x.a.length=i' at hw1 p3 p4 t0
                      have HI1:=Lib.hid (show i+1<=x.a.length+x.b.length by omega)
                      clear hx hit hi hil hil2
                      by_cases h2:(y.kind:Int)=2
                      · go_wp2_with fail
                        go_ret
                        exact may_no (HB3.out.trans (HBF.out.mono HB3.out.size))
                      by_cases h3:(y.kind:Int)=3
                      · go_wp2_with fail
                        go_ret
                        exact may_no (HB3.out.trans (HBF.out.mono HB3.out.size))
                      have hb2:((y.kind:Int) == 2)=false:=by simpa using h2
                      have hb3:((y.kind:Int) == 3)=false:=by simpa using h3
                      have HYK:=Lib.hid (show y.kind≠2/\y.kind≠3 from ⟨by omega,by omega⟩)
                      go_wp2_with fail
                      go_roundg (x.a.length+x.b.length - (i+1))
                      case measure=>have:=HI1.out;omega
                      case rel=>exact ⟨i+1,HI1.out,rfl,by go_num,HBi,Lib.hid fun q z hq hz=>by
                        by_cases e:q<i
                        · exact HI.out q z e hz
                        · obtain rfl:q=i:=by omega
                          rw [HY.out] at hz;cases hz;exact HYK.out⟩
                    obtain rfl:i=x.a.length+x.b.length:=by omega
                    have p2:¬ (((x.a.length+x.b.length:Nat):Int)<(x.a.length:Int)+(x.b.length:Int)):=by omega
                    have HPI:=Lib.hid (show (∀ y ∈ x.a,y.kind≠2/\y.kind≠3)/\∀ y ∈ x.b,y.kind≠2/\y.kind≠3 from ⟨fun y hy=>by
                        obtain ⟨q,hq⟩:=List.getElem?_of_mem (List.mem_append_left x.b hy)
                        exact HI.out q y (by have:=(List.getElem?_eq_some_iff.1 hq).1;rw [List.length_append] at this;exact this) hq,fun y hy=>by
                        obtain ⟨q,hq⟩:=List.getElem?_of_mem (List.mem_append_right x.a hy)
                        exact HI.out q y (by have:=(List.getElem?_eq_some_iff.1 hq).1;rw [List.length_append] at this;exact this) hq⟩)
                    clear hil hil2 hi HI
                    by_cases h1:(x.loc:Int)=114
                    · go_wp2_with fail
                      go_ret
                      exact may_no (HB3.out.trans (HBF.out.mono HB3.out.size))
                    by_cases h2:(7:Int)<(x.reg:Int)
                    · go_wp2_with fail
                      go_ret
                      exact may_no (HB3.out.trans (HBF.out.mono HB3.out.size))
                    have HPM:=Lib.hid (show PlainM x from ⟨HPI.out.1,HPI.out.2,by omega,by omega⟩)
                    go_wp2_with fail
                    go_roundg (l.length - (k+1))
                    case measure=>have:=HK.out;omega
                    case rel=>exact ⟨k+1,HK.out,rfl,by go_num,HBF,HBF6,Lib.hid fun i y hi hy=>by
                      by_cases e:i<k
                      · exact HG.out i y e hy
                      · obtain rfl:i=k:=by omega
                        rw [HX2.out] at hy;cases hy;exact HPM.out⟩
                · obtain rfl:k=l.length:=by omega
                  have p1:¬ ((l.length:Int)<(l.length:Int)):=by omega
                  clear hkl hk hbx
                  go_wp2_with fail
                  go_roundg (lt.length - (j+1))
                  case measure=>have:=HJ.out;omega
                  case rel=>exact ⟨j+1,HJ.out,rfl,by go_num,HBk,Lib.hid fun i y hi hy=>by
                    by_cases e:i<j
                    · exact HF.out i y e hy
                    · obtain rfl:i=j:=by omega
                      rw [HX.out] at hy;cases hy;intro x hx;obtain ⟨q,hq⟩:=List.getElem?_of_mem hx;exact HG.out q x (List.getElem?_eq_some_iff.1 hq).1 hq⟩
            · obtain rfl:j=lt.length:=by omega
              have m1:¬ ((lt.length:Int)<(lt.length:Int)):=by omega
              clear hlt hj hbx
              go_wp2_with fail
              go_ret
              exact ⟨true,rfl,HB3.out.trans (HBj.out.mono HB3.out.size),fun _=>⟨⟨li,lt,al',lq⟩,rfl,HV.out,HM.out,HD.out,HFL.out,HPR.out,HFW.out,HASK.out,HIN.out,fun l hl x hx=>by
                obtain ⟨i,hi⟩:=List.getElem?_of_mem hl
                exact HF.out i l (List.getElem?_eq_some_iff.1 hi).1 hi x hx⟩⟩
end Go.Proofs.YtppdbnccinfegaaGreatDoor.Prs
end
