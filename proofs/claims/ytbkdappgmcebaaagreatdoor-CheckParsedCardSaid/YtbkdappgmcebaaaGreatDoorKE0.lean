/- Part 41 of the proof: what is used of the texts ChkP. -/
import Derived.Test.YtbkdappgmcebaaaGreatDoorKD6
import Derived.Test.YtbkdappgmcebaaaGreatDoorKD9
import Derived.Deep.DeepCutAuto
section
namespace Go.Proofs.YtbkdappgmcebaaaGreatDoor.Chk
open Go.RowKit Go.Proofs.YtbkdappgmcebaaaGreatDoor.Mem Go.Proofs.YtbkdappgmcebaaaGreatDoor.Expr Go.Proofs.YtbkdappgmcebaaaGreatDoor.Prog Go.Proofs.YtbkdappgmcebaaaGreatDoor.Prs Go.Lib
def OkAt (U:Nat) (w:World) (t:Ts) (e:Ending) (W:World):Prop:=∃ pi ni ci pt nt ct pa,e = .returned (.tuple #[.agg #[.slice pi ni ci,.slice pt nt ct,.bool t.all,.pointer pa],.agg #[.int .i64 0,.int .i64 0],.int .i64 0])/\TestV W t (.slice pi ni ci) (.slice pt nt ct) (.pointer pa)/\Below U w W
theorem ok_at {s:ByteArray} {t:Ts} {w0 w W:World} {e:Ending} (hr:parseAll s.data.toList = .ok t) (hl:Below w0.heap.size w0 w) (h:ParseMade (parseAll s.data.toList) w e W):OkAt w0.heap.size w0 t e W/\Below w.heap.size w W:=by
  rw [hr] at h
  obtain ⟨hb,vi,vt,pa,he,hv⟩:=h
  obtain ⟨pi,ci,rfl⟩:=hv.init.len
  obtain ⟨pt,ct,rfl⟩:=hv.threads.len
  exact ⟨⟨pi,_,ci,pt,_,ct,pa,he,hv,hl.trans (hb.mono hl.size)⟩,hb⟩
structure Holding (w0:World) (g:Nat) (t:Ts) (pi:Option Addr) (ni ci:Nat) (pt:Option Addr) (nt ct:Nat) (pa:Option Addr) (W:World):Prop where
  box:Sits W g 27 #[.slice pi ni ci,.slice pt nt ct,.bool t.all,.pointer pa]
  v:TestV W t (.slice pi ni ci) (.slice pt nt ct) (.pointer pa)
  low:Below w0.heap.size w0 W
theorem Holding.below {w0:World} {g:Nat} {t:Ts} {pi:Option Addr} {ni ci:Nat} {pt:Option Addr} {nt ct:Nat} {pa:Option Addr} {W W':World} (h:Holding w0 g t pi ni ci pt nt ct pa W) (hb:Below W.heap.size W W'):Holding w0 g t pi ni ci pt nt ct pa W' :=
  ⟨h.box.below hb h.box.lt,h.v.below hb,h.low.trans (hb.mono h.low.size)⟩
def readW (w:World) (t:Ts) (pi:Option Addr) (ni ci:Nat) (pt:Option Addr) (nt ct:Nat) (pa:Option Addr):World:=(w.alloc (.cells #[.slice pi ni ci,.slice pt nt ct,.bool t.all,.pointer pa] 27)).alloc (.cells #[.int .i64 0,.int .i64 0] 29)
theorem read_low (w:World) (t:Ts) (pi:Option Addr) (ni ci:Nat) (pt:Option Addr) (nt ct:Nat) (pa:Option Addr):Below w.heap.size w (readW w t pi ni ci pt nt ct pa):=((Below.refl _ _).alloc (Nat.le_refl _) _).alloc (by simp) _
theorem read_hold {w0 w:World} {t:Ts} {pi:Option Addr} {ni ci:Nat} {pt:Option Addr} {nt ct:Nat} {pa:Option Addr} (hl:Below w0.heap.size w0 w) (hv:TestV w t (.slice pi ni ci) (.slice pt nt ct) (.pointer pa)):Holding w0 w.heap.size t pi ni ci pt nt ct pa (readW w t pi ni ci pt nt ct pa) :=
  ⟨(Sits.new _ _ _).alloc _,hv.below (read_low _ _ _ _ _ _ _ _ _),hl.trans ((read_low _ _ _ _ _ _ _ _ _).mono hl.size)⟩
def twiceUpto (l:List (Nat × Nat)) (i k:Nat):Prop:=∃ (i' k':Nat) (x y:Nat × Nat),k' < i' /\ (i' < i \/ (i' = i/\k' < k))/\l[i']? = some x/\l[k']? = some y/\x.1=y.1
theorem twice_zero (l:List (Nat × Nat)):¬ twiceUpto l 0 0:=by rintro ⟨i,k,_,_,_,h,_⟩;omega
theorem twice_row (l:List (Nat × Nat)) (i:Nat):twiceUpto l i i ↔ twiceUpto l (i+1) 0:=by
  constructor
  · rintro ⟨i',k',x,y,h1,h2,h⟩;exact ⟨i',k',x,y,h1,by omega,h⟩
  · rintro ⟨i',k',x,y,h1,h2,h⟩;exact ⟨i',k',x,y,h1,by omega,h⟩
theorem twice_step {l:List (Nat × Nat)} {i k:Nat} {x y:Nat × Nat} (hx:l[i]? = some x) (hy:l[k]? = some y) (hk:k<i):twiceUpto l i (k+1) ↔ twiceUpto l i k \/ x.1=y.1:=by
  constructor
  · rintro ⟨i',k',x',y',h1,h2,hx',hy',e⟩
    by_cases h:i' = i/\k' = k
    · obtain ⟨rfl,rfl⟩:=h
      rw [hx] at hx';rw [hy] at hy'
      cases hx';cases hy'
      exact .inr e
    · exact .inl ⟨i',k',x',y',h1,by omega,hx',hy',e⟩
  · rintro (⟨i',k',x',y',h1,h2,h⟩ | e)
    · exact ⟨i',k',x',y',h1,by omega,h⟩
    · exact ⟨i,k,x,y,hk,by omega,hx,hy,e⟩
theorem twice_all (l:List (Nat × Nat)):twiceUpto l l.length 0 ↔ twice l:=by
  constructor
  · rintro ⟨i',k',x,y,h1,_,h⟩;exact ⟨i',k',x,y,h1,h⟩
  · rintro ⟨i',k',x,y,h1,hx,h⟩;exact ⟨i',k',x,y,h1,by have:=(List.getElem?_eq_some_iff.1 hx).1;omega,hx,h⟩
set_option maxRecDepth 100000 in
set_option maxHeartbeats 4000000 in
theorem parsed_any (s:ByteArray) (w:World) (hs:s.size<=9223372036854775807) (hX:AllK w) :
    Calls Tryz.prog 5 #[.string s] w fun e w'=>Made (.returned (.bool true)) w e w':=by
  have HWK:=Lib.hid (fun W (h:Below w.heap.size w W)=>wakes_any W (hX.below h))
  have HPS:=Lib.hid (fun W (h:Below w.heap.size w W)=>parse_any s W hs (hX.1.below h))
  have HX:=Lib.hid hX
  have HB0:=Lib.hid (Below.refl w.heap.size w)
  clear hX hs
  by_cases h45:(4500:Int)<(s.size:Int)
  · clear HPS
    go_enter Tryz.func5,Tryz.ntmps5
    go_wp2_with fail
    refine (HWK.out _ HB0.out).mono ?_
    rintro e w' ⟨rfl,hb⟩
    have HE:=Lib.hid hb
    clear hb
    go_wp2_with fail
    go_ret
    exact ⟨rfl,HE.out⟩
  go_enter Tryz.func5,Tryz.ntmps5
  go_wp2_with fail
  clear h45
  refine (HPS.out w HB0.out).mono ?_
  intro e w2 hm
  cases hr:parseAll s.data.toList with
  | err l c er =>
    rw [hr] at hm
    obtain ⟨hb,he⟩:=hm
    have he:e = .returned (.tuple #[.agg #[.slice none 0 0,.slice none 0 0,.bool false,.pointer none],.agg #[.int .i64 l,.int .i64 c],.int .i64 er]):=he
    subst he
    have hne:¬ ((er:Int)=0):=by have:=parse_er hr;omega
    have hlow:Below w2.heap.size w2 ((w2.alloc (.cells #[.slice none 0 0,.slice none 0 0,.bool false,.pointer none] 27)).alloc (.cells #[.int .i64 l,.int .i64 c] 29)):=((Below.refl _ _).alloc (Nat.le_refl _) _).alloc (by simp) _
    have HB3:=Lib.hid (hb.trans (hlow.mono hb.size))
    clear hb hlow hr HPS
    go_wp2_with fail
    refine (HWK.out _ HB3.out).mono ?_
    rintro e w3 ⟨rfl,hb⟩
    have HE:=Lib.hid (HB3.out.trans (hb.mono HB3.out.size))
    clear hb
    go_wp2_with fail
    go_ret
    exact ⟨rfl,HE.out⟩
  | ok T =>
    have HRD:=Lib.hid (read_of hr)
    have HSM:=Lib.hid (read_small (read_of hr))
    have HCR:=Lib.hid (check_read (read_of hr))
    obtain ⟨⟨pi4,ni4,ci4,pt4,nt4,ct4,pa4,rfl,hv,hb⟩,_⟩:=ok_at hr HB0.out hm
    obtain ⟨pi5,ci5,ei⟩:=hv.init.len
    injection ei with ei1 ei2 ei3
    subst ei1 ei2 ei3
    obtain ⟨pt5,ct5,ei⟩:=hv.threads.len
    injection ei with ei1 ei2 ei3
    subst ei1 ei2 ei3
    have hh:=read_hold hb hv
    have HHx:=Lib.hid hh
    unfold readW at hh
    have HH3:=Lib.hid hh
    have m1:(T.init.length:Int)<=1000:=by have:=HSM.out.init;omega
    have m2:(T.threads.length:Int)<=1000:=by have:=HSM.out.threads;omega
    have a0:=hh.box.cell 0
    have a1:=hh.box.cell 1
    have a2:=hh.box.cell 2
    have a3:=hh.box.cell 3
    have la:=hh.box.lt
    clear hm hv hb hh hr HPS HHx
    go_wp2_with fail
    generalize (w2.alloc (.cells #[.slice pi4 T.init.length ci4,.slice pt4 T.threads.length ct4,.bool T.all,.pointer pa4] 27)).alloc (.cells #[.int .i64 0,.int .i64 0] 29)=w3 at HH3 a0 a1 a2 a3 la ⊢
    generalize w2.heap.size=g2 at HH3 a0 a1 a2 a3 la ⊢
    have HCK:=Lib.hid (check_any T HSM.out _ _ _ w3 (HX.out.2.below HH3.out.low) HH3.out.v)
    simp only [testAgg] at HCK
    obtain ⟨ce,hce⟩:∃ ce,ce=checkE T:=⟨_,rfl⟩
    obtain ⟨cl,hcl⟩:∃ cl,cl=checkL T:=⟨_,rfl⟩
    have HCL:=Lib.hid (show cl=if ce=0 then locsF T else [] by rw [hcl,hce];rfl)
    rw [<- hce,<- hcl] at HCK
    rw [<- hce] at HCR
    clear hce hcl
    refine HCK.out.mono ?_
    rintro e w4 ⟨rfl,hb⟩
    have HH4:=Lib.hid (HH3.out.below hb)
    clear hb a0 a1 a2 a3 la HH3 HCK
    go_wp2_with fail
    go_loopg [8,9] T.init.length (fun gg v8 v9 wx=>∃ (i:Nat) (z:Bool),i<=T.init.length/\gg=T.init.length - i/\v9 = .int .i64 (i:Nat)/\v8 = .bool z/\Hid (z=true ↔ twiceUpto T.init i 0)/\Hid (Holding w g2 T pi4 T.init.length ci4 pt4 T.threads.length ct4 pa4 wx))
    case atStart=>exact ⟨0,false,by omega,by omega,rfl,rfl,Lib.hid ⟨fun h=>(by cases h),fun h=>absurd h (twice_zero _)⟩,HH4⟩
    case round =>
      obtain ⟨i,z,hi,rfl,rfl,rfl,HZ,HH⟩:=hrel
      have a0:wr.cell? ⟨g2,0,none⟩=some (.slice pi4 T.init.length ci4):=HH.out.box.cell 0
      have la:=HH.out.box.lt
      by_cases hlt:i<T.init.length
      · have i1:(i:Int)<(T.init.length:Int):=by omega
        have HI:=Lib.hid hlt
        clear hi hlt
        go_wp2_with fail
        clear a0 la
        go_loopg [8,10] i (fun gg v8 v10 wx=>∃ (k:Nat) (z:Bool),k<=i/\gg=i - k/\v10 = .int .i64 (k:Nat)/\v8 = .bool z/\Hid (z=true ↔ twiceUpto T.init i k)/\Hid (Holding w g2 T pi4 T.init.length ci4 pt4 T.threads.length ct4 pa4 wx))
        case atStart=>exact ⟨0,z,by omega,by omega,rfl,rfl,HZ,HH⟩
        case round =>
          obtain ⟨k,z2,hk,rfl,rfl,rfl,HZ2,HH2⟩:=hrel
          by_cases hlk:k<i
          · have hx:T.init[i]? = some T.init[i]:=List.getElem?_eq_getElem HI.out
            have hy:T.init[k]? = some (T.init[k]'(by have:=HI.out;omega)):=List.getElem?_eq_getElem (by have:=HI.out;omega)
            generalize T.init[i]=x at hx
            generalize (T.init[k]'(by have:=HI.out;omega))=y at hy
            obtain ⟨xa,xb⟩:=x
            obtain ⟨ya,yb⟩:=y
            have a0:wr.cell? ⟨g2,0,none⟩=some (.slice pi4 T.init.length ci4):=HH2.out.box.cell 0
            have la:=HH2.out.box.lt
            obtain ⟨gi,oi,cpi,ev,c0,_⟩:=HH2.out.v.init.at hx
            obtain ⟨gi2,oi2,cpi2,ev2,d0,_⟩:=HH2.out.v.init.at hy
            rw [ev] at ev2
            injection ev2 with e1 _ _
            injection e1 with e1
            injection e1 with e1 e2 _
            subst e1 e2
            injection ev with ev1 _ ev3
            rw [ev1] at a0
            clear ev1 ev3
            have lg:=World.block_lt_of_cell? _ _ c0
            have HST:=Lib.hid (twice_step hx hy hlk)
            have k1:(k:Int)<(i:Int):=by omega
            have k2:(k:Int)<(T.init.length:Int):=by omega
            have k3:(0:Int)<=(k:Int):=by omega
            have k4:(0:Int)<=(i:Int):=by omega
            have HK:=Lib.hid hlk
            clear hx hy hk hlk
            cases z2 with
            | true =>
              go_wp2_with fail
              go_quiet (fail)
              go_wp2_with fail
              go_roundg (i - (k+1))
              case measure=>have:=HK.out;omega
              case rel=>exact ⟨k+1,true,HK.out,rfl,by go_num,rfl,Lib.hid ⟨fun _=>HST.out.2 (.inl (HZ2.out.1 (by trivial))),fun _=>rfl⟩,Lib.hid (HH2.out.below ⟨rfl,rfl,rfl,Nat.le_refl _,fun _ _=>rfl⟩)⟩
            | false =>
              have HE:=Lib.hid (show ((xa:Int) == (ya:Int))=decide (xa=ya) by
                by_cases h:xa=ya
                · rw [h];simp
                · rw [decide_eq_false h];exact beq_eq_false_iff_ne.2 (by omega))
              generalize hzz:((xa:Int) == (ya:Int))=z3 at HE
              have HZ3:=Lib.hid (show z3=true ↔ twiceUpto T.init i (k+1) by
                rw [HST.out,HE.out,decide_eq_true_iff]
                exact ⟨fun h => .inr h,fun h=>h.resolve_left (fun h=>by have:=HZ2.out.2 h;cases this)⟩)
              go_wp2_with fail
              go_quiet (fail)
              go_wp2_with fail
              go_roundg (i - (k+1))
              case measure=>have:=HK.out;omega
              case rel=>exact ⟨k+1,z3,HK.out,rfl,by go_num,rfl,HZ3,Lib.hid (HH2.out.below ⟨rfl,rfl,rfl,Nat.le_refl _,fun _ _=>rfl⟩)⟩
          · obtain rfl:k=i:=by omega
            have k1:¬ ((k:Int)<(k:Int)):=by omega
            have HZ3:=Lib.hid (HZ2.out.trans (twice_row T.init k))
            clear hk hlk
            go_wp2_with fail
            go_roundg (T.init.length - (k+1))
            case measure=>have:=HI.out;omega
            case rel=>exact ⟨k+1,z2,HI.out,rfl,by go_num,rfl,HZ3,HH2⟩
      · obtain rfl:i=T.init.length:=by omega
        have HZT:=Lib.hid (HZ.out.trans (twice_all T.init))
        have HTW:=Lib.hid (show ce=1 ↔ z=true \/ T.threads.length=0 by rw [HZT.out];exact HCR.out.1)
        have HCE:=Lib.hid HCR.out.2.1
        have HCF:=Lib.hid HCR.out.2.2
        have a0:wr.cell? ⟨g2,0,none⟩=some (.slice pi4 T.init.length ci4):=HH.out.box.cell 0
        have a1:wr.cell? ⟨g2,1,none⟩=some (.slice pt4 T.threads.length ct4):=HH.out.box.cell 1
        have a2:wr.cell? ⟨g2,2,none⟩=some (.bool T.all):=HH.out.box.cell 2
        have a3:wr.cell? ⟨g2,3,none⟩=some (.pointer pa4):=HH.out.box.cell 3
        have i1:¬ ((T.init.length:Int)<(T.init.length:Int)):=by omega
        have HT1:=Lib.hid (show decide (ce=1)=(z || decide (T.threads.length=0)) by
          have h:=HTW.out
          cases z with
          | true=>rw [Bool.true_or];exact decide_eq_true (h.2 (.inl rfl))
          | false =>
            rw [Bool.false_or]
            by_cases h0:T.threads.length=0
            · rw [decide_eq_true h0];exact decide_eq_true (h.2 (.inr h0))
            · rw [decide_eq_false h0];exact decide_eq_false (fun e=>(h.1 e).elim (fun h=>by cases h) h0))
        have HI1:=Lib.hid (int_dec0 T.threads.length)
        clear hi hlt HZT HTW HCR HZ
        by_cases hce:ce=0
        · subst hce
          have HZF:=Lib.hid (show z=false/\decide (T.threads.length=0)=false from by
            have:=HT1.out
            cases z <;> cases hd:decide (T.threads.length=0) <;> simp_all)
          obtain ⟨hz1,hz2⟩:=HZF.out
          subst hz1
          have n1:((T.threads.length:Int) == 0)=false:=by rw [int_dec0];exact hz2
          have HCT:=Lib.hid (show cl.length<=4 by rw [HCL.out,if_pos rfl];exact HCF.out rfl)
          clear hz2 HZF HT1 HI1
          have HSC:=Lib.hid (show ((str cl).size:Int)<=4 by have:=HCT.out;simp [str,ByteArray.size];omega)
          generalize str cl=sc at HSC ⊢
          have hsc:=HSC.out
          go_wp2_with fail
          clear a0 a1 a2 a3
          refine (text_test T (Prs.Read.good HRD.out).2 _ _ _ wr (HX.out.1.below HH.out.low) HH.out.v).mono ?_
          rintro e w5 ⟨rfl,hb⟩
          have HH5:=Lib.hid (HH.out.below hb)
          have HSZ:=Lib.hid (show (str T.text).size=T.text.length by simp [str,ByteArray.size])
          have HDT:=Lib.hid (show (str T.text).data.toList=T.text by simp [str])
          clear hb HH
          generalize str T.text=sb at HSZ HDT ⊢
          by_cases hlen:(4096:Int)<(sb.size:Int)
          · go_wp2_with fail
            refine (HWK.out _ HH5.out.low).mono ?_
            rintro e w6 ⟨rfl,hb⟩
            have HE:=Lib.hid (HH5.out.low.trans (hb.mono HH5.out.low.size))
            clear hb
            go_wp2_with fail
            go_ret
            exact ⟨rfl,HE.out⟩
          have HBK:=Lib.hid (show parseAll sb.data.toList = .ok T by rw [HDT.out];exact parse_back HRD.out.prints (by have:=HSZ.out;omega))
          have HPB:=Lib.hid (parse_any sb w5 (by omega) (HX.out.1.below HH5.out.low))
          go_wp2_with fail
          clear hlen
          refine HPB.out.mono ?_
          intro e w6 hm
          obtain ⟨⟨pi6,ni6,ci6,pt6,nt6,ct6,pa6,rfl,hv,hb⟩,hb4⟩:=ok_at HBK.out HH5.out.low hm
          have hh:=read_hold hb hv
          have hx5:=HH5.out.below hb4
          have d0:=hx5.box.cell 0
          have d1:=hx5.box.cell 1
          have d2:=hx5.box.cell 2
          have d3:=hx5.box.cell 3
          have ld:=hx5.box.lt
          have hh2:=hx5.below (read_low w6 T pi6 ni6 ci6 pt6 nt6 ct6 pa6)
          unfold readW at hh hh2
          have HH6:=Lib.hid hh
          have HH2:=Lib.hid hh2
          clear hm hv hb hb4 hh hh2 HPB hx5
          go_wp2_with fail
          clear d0 d1 d2 d3 ld
          generalize (w6.alloc (.cells #[.slice pi6 ni6 ci6,.slice pt6 nt6 ct6,.bool T.all,.pointer pa6] 27)).alloc (.cells #[.int .i64 0,.int .i64 0] 29)=w7 at HH6 HH2 ⊢
          refine (same_test T T (Prs.Read.good HRD.out).1 _ _ _ _ _ _ w7 HH2.out.v HH6.out.v).mono ?_
          rintro e w8 ⟨he,hb⟩
          rw [decide_eq_true rfl] at he
          subst he
          have HE:=Lib.hid (HH6.out.low.trans (hb.mono HH6.out.low.size))
          clear hb
          go_wp2_with fail
          refine (HWK.out _ HE.out).mono ?_
          rintro e w9 ⟨rfl,hb⟩
          have HF:=Lib.hid (HE.out.trans (hb.mono HE.out.size))
          clear hb
          go_wp2_with fail
          go_ret
          exact ⟨rfl,HF.out⟩
        · have hcl:cl=[]:=by rw [HCL.out,if_neg hce]
          subst hcl
          rw [show str ([]:List UInt8)=⟨#[]⟩ from rfl]
          have HLOW:=Lib.hid HH.out.low
          obtain rfl | rfl | rfl:ce=1 \/ ce=4 \/ ce=7:=by have:=HCE.out;omega
          · cases z with
            | true =>
              clear hce HCE HCF HCL HT1 HI1
              go_wp2_with fail
              refine (HWK.out _ HLOW.out).mono ?_
              rintro e w5 ⟨rfl,hb⟩
              have HE:=Lib.hid (HLOW.out.trans (hb.mono HLOW.out.size))
              clear hb
              go_wp2_with fail
              go_ret
              exact ⟨rfl,HE.out⟩
            | false =>
              have n1:((T.threads.length:Int) == 0)=true:=by rw [HI1.out];simpa using HT1.out.symm
              clear hce HCE HCF HCL HT1 HI1
              go_wp2_with fail
              refine (HWK.out _ HLOW.out).mono ?_
              rintro e w5 ⟨rfl,hb⟩
              have HE:=Lib.hid (HLOW.out.trans (hb.mono HLOW.out.size))
              clear hb
              go_wp2_with fail
              go_ret
              exact ⟨rfl,HE.out⟩
          all_goals
            obtain ⟨hz1,hz2⟩:z=false/\decide (T.threads.length=0)=false:=by
              have:=HT1.out
              cases z <;> cases hd:decide (T.threads.length=0) <;> simp_all
            subst hz1
            have n1:((T.threads.length:Int) == 0)=false:=by rw [HI1.out];exact hz2
            clear hce HCE HCF HCL HT1 HI1 hz2
            go_wp2_with fail
            refine (HWK.out _ HLOW.out).mono ?_
            rintro e w5 ⟨rfl,hb⟩
            have HE:=Lib.hid (HLOW.out.trans (hb.mono HLOW.out.size))
            clear hb
            go_wp2_with fail
            go_ret
            exact ⟨rfl,HE.out⟩
end Go.Proofs.YtbkdappgmcebaaaGreatDoor.Chk
end
