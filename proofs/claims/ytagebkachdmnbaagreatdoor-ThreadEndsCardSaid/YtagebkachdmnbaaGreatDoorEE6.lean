/- Part 47 of the proof: what is used of the texts ThrQ. -/
import Derived.Test.YtagebkachdmnbaaGreatDoorEE5
import Derived.Test.YtagebkachdmnbaaGreatDoorEE4
import Derived.Test.YtagebkachdmnbaaGreatDoorEA8
section
namespace Go.Proofs.YtagebkachdmnbaaGreatDoor.Thr
open Go.RowKit Go.Shelf Go.Proofs.YtagebkachdmnbaaGreatDoor.Mem Go.Proofs.YtagebkachdmnbaaGreatDoor.Expr Go.Proofs.YtagebkachdmnbaaGreatDoor.Prog Go.Proofs.YtagebkachdmnbaaGreatDoor.Chk Go.Proofs.YtagebkachdmnbaaGreatDoor.Row Go.Proofs.YtagebkachdmnbaaGreatDoor.Unr Go.Lib
structure GoV (wb:World) (g10 g11:Nat) (r:Option Addr) (n d:Nat) (b:Int) (s:St) (W:World):Prop where
  low:Below wb.heap.size wb W
  hx:Sits W g10 44 #[.slice r n d,.int .i64 b]
  hs:StB g11 s W
section
variable {wb W W' : World} {g10 g11 : Nat} {r : Option Addr} {n d : Nat} {b : Int} {s : St}
theorem GoV.grown (h:GoV wb g10 g11 r n d b s W) (hb:Below W.heap.size W W'):GoV wb g10 g11 r n d b s W' :=
  ⟨h.low.trans (hb.mono h.low.size),h.hx.below hb h.hx.lt,h.hs.below hb h.hs.lt⟩
theorem GoV.put (h:GoV wb g10 g11 r n d b s W) (hg:wb.heap.size<=g11) (hne:g10≠g11) (s':St):GoV wb g10 g11 r n d b s' (W.setRow g11 (stC s')) :=
  ⟨row_low' h.low hg _,(setRow_other W g11 g10 _ hne).trans h.hx,setRow_heap _ _ _ _ _ _ h.hs⟩
end
theorem end_none {code:List In} {i:Int} (h:atI code i=none):endF code.length i=true:=by
  unfold endF
  refine decide_eq_true ?_
  unfold atI at h
  split at h
  · have:=List.getElem?_eq_none_iff.1 h;omega
  · omega
theorem end_some {code:List In} {i:Int} {x:In} (h:atI code i=some x):endF code.length i=false:=by
  obtain ⟨h0,h1,_⟩:=atI_some h
  exact decide_eq_false (by omega)
structure GoN (code:List In) (n:Nat) (s:St):Prop where
  stay:Stay code s
  left:s.at_+n<code.length
  reg:Reg64 s.r
set_option maxRecDepth 100000 in
set_option maxHeartbeats 8000000 in
theorem ends_much (s:ByteArray) (k:Int) (pr:Option Addr) (nr cr:Nat) (hn:100<nr) (w:World) (hX:AllK w) :
    Calls Tryz.prog 5 #[.string s,.int .u8 k,.slice pr nr cr] w (Made (.returned (.bool true)) w):=by
  have HWK:Hid (∀ W,Below w.heap.size w W->Calls Tryz.prog 8 #[] W (Made (.returned (.bool true)) W)):=Lib.hid (fun W h=>wakes_any W (hX.below h))
  have k2:(100:Int)<(nr:Int):=by omega
  clear hX hn
  by_cases h1:4500<s.size
  · have k1:(4500:Int)<(s.size:Int):=by omega
    clear h1
    go_enter Tryz.func5,Tryz.ntmps5
    go_wp2_with fail
    refine (HWK.out _ (Below.refl _ _)).mono ?_
    rintro e w1 ⟨rfl,hb⟩
    have HB:=Lib.hid hb
    clear hb
    go_wp2_with fail
    go_ret
    exact ⟨rfl,HB.out⟩
  · have k1:¬ (4500:Int)<(s.size:Int):=by omega
    clear h1
    go_enter Tryz.func5,Tryz.ntmps5
    go_wp2_with fail
    refine (HWK.out _ (Below.refl _ _)).mono ?_
    rintro e w1 ⟨rfl,hb⟩
    have HB:=Lib.hid hb
    clear hb
    go_wp2_with fail
    go_ret
    exact ⟨rfl,HB.out⟩
set_option maxRecDepth 100000 in
set_option maxHeartbeats 16000000 in
theorem ends_any (s:ByteArray) (hs:s.size<=9223372036854775807) (k:Int) (L:List Nat) (h64:∀ x ∈ L,x<18446744073709551616) (pr:Option Addr) (cr:Nat) (w:World) (hR:URow w (.slice pr L.length cr) L) (hL:L.length<=100) (hX:AllK w) :
    Calls Tryz.prog 5 #[.string s,.int .u8 k,.slice pr L.length cr] w (Made (.returned (.bool true)) w):=by
  have HWK:Hid (∀ W,Below w.heap.size w W->Calls Tryz.prog 8 #[] W (Made (.returned (.bool true)) W)):=Lib.hid (fun W h=>wakes_any W (hX.below h))
  have HMD:Hid (∀ j,Calls Tryz.prog 28 #[.string s,.int .i64 j] w (GivesM s.data.toList j w)):=Lib.hid (fun j=>made_any s j w hs hX)
  have HR:=Lib.hid hR
  have H64:=Lib.hid h64
  clear hX hR h64 hs
  by_cases h1:4500<s.size
  · have k1:(4500:Int)<(s.size:Int):=by omega
    clear HMD HR H64 h1 hL
    go_enter Tryz.func5,Tryz.ntmps5
    go_wp2_with fail
    refine (HWK.out _ (Below.refl _ _)).mono ?_
    rintro e w1 ⟨rfl,hb⟩
    have HB:=Lib.hid hb
    clear hb
    go_wp2_with fail
    go_ret
    exact ⟨rfl,HB.out⟩
  have k1:¬ (4500:Int)<(s.size:Int):=by omega
  have k2:¬ (100:Int)<(L.length:Int):=by omega
  clear h1 hL
  go_enter Tryz.func5,Tryz.ntmps5
  go_wp2_with fail
  refine (HMD.out _).mono ?_
  clear k1 k2 HMD
  rintro e w1 ⟨hb,hm⟩
  have HB1:=Lib.hid hb
  clear hb
  generalize hmd:madeF s.data.toList _=om at hm
  cases om with
  | none =>
    obtain ⟨p,n,c,sx,q,n2,c2,al,va,rfl⟩:∃ p n c st q n2 c2 al va,e = .returned (.tuple #[.agg #[.slice p n c,.string st,.slice q n2 c2,.bool al,.pointer va],.bool false]):=hm
    clear hmd
    go_upto_region 5 with (fail)
    have HB2:=Lib.hid (HB1.out.trans ((one_low w1 (.cells #[.slice p n c,.string sx,.slice q n2 c2,.bool al,.pointer va] 33)).mono HB1.out.size))
    change Code.wp _ _ _ _ (w1.alloc (.cells #[.slice p n c,.string sx,.slice q n2 c2,.bool al,.pointer va] 33))
    generalize w1.alloc (.cells #[.slice p n c,.string sx,.slice q n2 c2,.bool al,.pointer va] 33)=w2 at HB2 ⊢
    go_wp2_with fail
    refine (HWK.out _ HB2.out).mono ?_
    rintro e w3 ⟨rfl,hb⟩
    have HB:=Lib.hid (HB2.out.trans (hb.mono HB2.out.size))
    clear hb
    go_wp2_with fail
    go_ret
    exact ⟨rfl,HB.out⟩
  | some t =>
    obtain ⟨ths,vth,vst,va,hu,rfl,hv,hst⟩:∃ ths vth vst va,unrollT t _=some ths/\e = .returned (.tuple #[.agg #[vth,.string (str (checkL t)),vst,.bool t.all,.pointer va],.bool true])/\ThsV w1 vth ths/\URow w1 vst (startsU t):=hm
    have HSF:=Lib.hid (made_safe hmd hu)
    have HFW:=Lib.hid (made_few hmd hu)
    obtain ⟨rs,ns,ds,rfl,_⟩:=startW_slice (t:=t) (show startW t vst w1 from hst)
    obtain ⟨rt,dt,ct,rfl,hlay,hcs⟩:=hv
    have HTV:Hid (ThsV w1 (.slice rt ths.length dt) ths):=Lib.hid ⟨rt,dt,ct,rfl,hlay,hcs⟩
    clear hmd hu hst hlay hcs
    generalize t.all=al
    generalize str (checkL t)=sx
    go_upto_region 6 with (fail)
    have hlow:=one_low w1 (.cells #[.slice rt ths.length dt,.string sx,.slice rs ns ds,.bool al,.pointer va] 33)
    have HB2:=Lib.hid (HB1.out.trans (hlow.mono HB1.out.size))
    have HTH:=Lib.hid (HTV.out.below hlow)
    have HRL:=Lib.hid (HR.out.below HB2.out)
    have HPG:=Lib.hid (Sits.new w1 33 #[.slice rt ths.length dt,.string sx,.slice rs ns ds,.bool al,.pointer va])
    change Code.wp _ _ _ _ (w1.alloc (.cells #[.slice rt ths.length dt,.string sx,.slice rs ns ds,.bool al,.pointer va] 33))
    generalize w1.alloc (.cells #[.slice rt ths.length dt,.string sx,.slice rs ns ds,.bool al,.pointer va] 33)=w2 at HB2 HTH HRL HPG ⊢
    generalize w1.heap.size=gp at HPG ⊢
    clear hlow HTV HR HB1
    have hfew:=HFW.out
    go_wp2_with fail
    go_loopg [9] ths.length (fun gg v9 wx=>∃ i,i<=ths.length/\gg=ths.length - i/\v9 = .int .i64 (i:Nat)/\Hid (Below w2.heap.size w2 wx))
    case atStart=>exact ⟨0,Nat.zero_le _,by omega,rfl,Lib.hid (Below.refl _ _)⟩
    case round =>
      obtain ⟨i,hi,rfl,rfl,HW⟩:=hrel
      have HPW:=Lib.hid (HPG.out.below HW.out HPG.out.lt)
      have p0:=HPW.out.cell 0
      have p1:=HPW.out.cell 1
      have p2:=HPW.out.cell 2
      have p3:=HPW.out.cell 3
      have p4:=HPW.out.cell 4
      have lp:=HPW.out.lt
      by_cases hil:i<ths.length
      · have hx:ths[i]? = some ths[i]:=List.getElem?_eq_getElem hil
        generalize ths[i]=x at hx
        obtain ⟨code,b⟩:=x
        have hsf:=HSF.out (code,b) (List.mem_of_getElem? hx)
        obtain ⟨gt,ot,ctp,r,d,e1,hlt,t0,t1,hc,hd⟩:=ths_at HTH.out hx
        injection e1 with e1 _ e3
        subst e1 e3
        have HC:=Lib.hid (show CodV w2 r code from hc)
        have HD:=Lib.hid (show code.length<=d from hd)
        have HSA:=Lib.hid (show Safe (code,b) from hsf)
        have q0:wr.cell? ⟨gt,ot+i * 2,none⟩=some (.slice r code.length d):=(HW.out.cell (p:=⟨gt,ot+i * 2,none⟩) hlt).trans t0
        have q1:wr.cell? ⟨gt,ot+i * 2+1,none⟩=some (.int .i64 b):=(HW.out.cell (p:=⟨gt,ot+i * 2+1,none⟩) hlt).trans t1
        have lq:gt<wr.heap.size:=Nat.lt_of_lt_of_le hlt HW.out.size
        have c1:(i:Int)<(ths.length:Int):=by omega
        have c0:(0:Int)<=(i:Int):=by omega
        have HIL:=Lib.hid hil
        have HBG:Hid (∀ W,Below w2.heap.size w2 W->Calls Tryz.prog 12 #[.agg #[.slice r code.length d,.int .i64 b]] W (Made (.returned (stV (beginF code b))) W)):=Lib.hid (fun W h=>begin_any code HSA.out.len HSA.out.ok r d b W (HC.out.below h))
        have HMO:Hid (∀ j W,Below w2.heap.size w2 W->Calls Tryz.prog 18 #[.agg #[.slice r code.length d,.int .i64 b],.int .i64 j] W (Made (.returned (.int .i64 (mostW code j:Nat))) W)):=Lib.hid (fun j W h=>Most_any code HSA.out.len r d HD.out b j W (HC.out.below h))
        have HGN:Hid (GoN code 0 (beginF code b)):=Lib.hid ⟨(HSA.out.fall.begin_ HSA.out.low HSA.out.top).1,by have h:(beginF code b).at_<(code.length:Int):=(HSA.out.fall.begin_ HSA.out.low HSA.out.top).1.top;simpa using h,begin_64 HSA.out.ok b⟩
        have HMB:Hid (mostW code (beginF code b).at_<=mostW code b):=Lib.hid (HSA.out.fall.begin_ HSA.out.low HSA.out.top).2
        clear hx hsf hlt t0 t1 hc hd hil
        go_upto_region 10 with (fail)
        have HE0:Hid (Below w2.heap.size w2 (wr.alloc (.cells #[.slice r code.length d,.int .i64 b] 44))):=Lib.hid (HW.out.trans ((one_low _ _).mono HW.out.size))
        have HX0:Hid (Sits (wr.alloc (.cells #[.slice r code.length d,.int .i64 b] 44)) wr.heap.size 44 #[.slice r code.length d,.int .i64 b]):=Lib.hid (Sits.new _ _ _)
        have HG10:Hid (w2.heap.size<=wr.heap.size):=Lib.hid HW.out.size
        change Code.wp _ _ _ _ (wr.alloc (.cells #[.slice r code.length d,.int .i64 b] 44))
        generalize wr.alloc (.cells #[.slice r code.length d,.int .i64 b] 44)=w3 at HE0 HX0 ⊢
        generalize wr.heap.size=g10 at HX0 HG10 ⊢
        clear p0 p1 p2 p3 p4 lp q0 q1 lq HPW HW
        have x0:=HX0.out.cell 0
        have x1:=HX0.out.cell 1
        have lx:=HX0.out.lt
        go_wp2_with fail
        refine (HBG.out _ HE0.out).mono ?_
        rintro e w4 ⟨rfl,hb⟩
        generalize beginF code b=s0 at HGN HMB HBG ⊢
        obtain ⟨i0,f0⟩:=s0
        have HE1:=Lib.hid (HE0.out.trans (hb.mono HE0.out.size))
        have HX1:=Lib.hid (HX0.out.below hb HX0.out.lt)
        clear hb x0 x1 lx HBG HE0 HX0
        go_upto_region 11 with (fail)
        have HGV:Hid (GoV w2 g10 w4.heap.size r code.length d b ⟨i0,f0⟩ (w4.alloc (.cells #[.int .i64 i0,.int .u64 (f0 0),.int .u64 (f0 1),.int .u64 (f0 2),.int .u64 (f0 3),.int .u64 (f0 4),.int .u64 (f0 5),.int .u64 (f0 6),.int .u64 (f0 7)] 52))):=Lib.hid ⟨HE1.out.trans ((one_low _ _).mono HE1.out.size),HX1.out.below (one_low _ _) HX1.out.lt,Sits.new _ _ _⟩
        have HG11:Hid (w2.heap.size<=w4.heap.size/\g10≠w4.heap.size):=Lib.hid ⟨HE1.out.size,by have:=HX1.out.lt;omega⟩
        change Code.wp _ _ _ _ (w4.alloc (.cells #[.int .i64 i0,.int .u64 (f0 0),.int .u64 (f0 1),.int .u64 (f0 2),.int .u64 (f0 3),.int .u64 (f0 4),.int .u64 (f0 5),.int .u64 (f0 6),.int .u64 (f0 7)] 52))
        generalize w4.alloc (.cells #[.int .i64 i0,.int .u64 (f0 0),.int .u64 (f0 1),.int .u64 (f0 2),.int .u64 (f0 3),.int .u64 (f0 4),.int .u64 (f0 5),.int .u64 (f0 6),.int .u64 (f0 7)] 52)=w5 at HGV ⊢
        generalize w4.heap.size=g11 at HGV HG11 ⊢
        clear HE1 HX1
        have HM0:Hid (mostW code i0<=mostW code b):=HMB
        clear HMB
        refine Flow.wp_flowG [53,54,55,56,57,58,59,60] [Flow.eqV (.agg #[.slice r code.length d,.int .i64 b]),Flow.eqV (.pointer (some ⟨g11,0,none⟩)),Flow.eqV (.int .i64 i0),Flow.eqV (.int .i64 ((mostW code i0:Nat):Int)),Flow.eqV (.agg #[.slice r code.length d,.int .i64 b]),Flow.eqV (.pointer (some ⟨g10,1,none⟩)),Flow.eqV (.int .i64 b),Flow.eqV (.int .i64 ((mostW code b:Nat):Int))]
          (by kernel_rfl) (by kernel_rfl) (by kernel_rfl) (by kernel_rfl) (by rfl) (by simp only [List.mem_cons,List.not_mem_nil,or_false,forall_eq_or_imp,forall_eq];refine ⟨?_,?_,?_,?_,?_,?_,?_,?_⟩ <;> exact Flow.eqV_mono _) ?_ ?_
        · intro i o hi ho A W hW hk he
          simp only [List.length_cons,List.length_nil,Nat.zero_add,Nat.reduceAdd] at hi
          have HGW:=Lib.hid (HGV.out.grown hW)
          have x0:=HGW.out.hx.cell 0
          have x1:=HGW.out.hx.cell 1
          have lx:=HGW.out.hx.lt
          have s0:W.cell? ⟨g11,0,none⟩=some (.int .i64 i0):=HGW.out.hs.cell 0
          have ls:=HGW.out.hs.lt
          obtain rfl | rfl | rfl | rfl | rfl | rfl | rfl | rfl:i=0 \/ i=1 \/ i=2 \/ i=3 \/ i=4 \/ i=5 \/ i=6 \/ i=7:=by omega
          · injection ho with ho;subst ho
            refine .inl ⟨Flow.wanted_free rfl,?_⟩
            have t10:A.tmps[10]?.getD undef = .pointer (some ⟨g10,0,none⟩):=hk 10 (by rfl)
            go_simp
            exact ⟨rfl,Below.refl _ _⟩
          · injection ho with ho;subst ho
            refine .inl ⟨Flow.wanted_free rfl,?_⟩
            have t11:A.tmps[11]?.getD undef = .pointer (some ⟨g11,0,none⟩):=hk 11 (by rfl)
            go_simp
            exact ⟨rfl,Below.refl _ _⟩
          · injection ho with ho;subst ho
            refine .inl ⟨Flow.wanted_free rfl,?_⟩
            have t54:A.tmps[54]?.getD undef = .pointer (some ⟨g11,0,none⟩):=he 1 (by kernel_rfl)
            go_simp
            exact ⟨rfl,Below.refl _ _⟩
          · injection ho with ho;subst ho
            refine .inl ⟨Flow.wanted_free rfl,?_⟩
            have t53:A.tmps[53]?.getD undef = .agg #[.slice r code.length d,.int .i64 b]:=he 0 (by kernel_rfl)
            have t55:A.tmps[55]?.getD undef = .int .i64 i0:=he 2 (by kernel_rfl)
            go_simp
            refine Calls.mono (HMO.out _ W HGW.out.low) ?_
            rintro e' w' ⟨rfl,hb⟩
            exact ⟨_,rfl,rfl,hb⟩
          · injection ho with ho;subst ho
            refine .inl ⟨Flow.wanted_free rfl,?_⟩
            have t10:A.tmps[10]?.getD undef = .pointer (some ⟨g10,0,none⟩):=hk 10 (by rfl)
            go_simp
            exact ⟨rfl,Below.refl _ _⟩
          · injection ho with ho;subst ho
            refine .inl ⟨Flow.wanted_free rfl,?_⟩
            have t10:A.tmps[10]?.getD undef = .pointer (some ⟨g10,0,none⟩):=hk 10 (by rfl)
            go_simp
            exact ⟨rfl,Below.refl _ _⟩
          · injection ho with ho;subst ho
            refine .inl ⟨Flow.wanted_free rfl,?_⟩
            have t58:A.tmps[58]?.getD undef = .pointer (some ⟨g10,1,none⟩):=he 5 (by kernel_rfl)
            go_simp
            exact ⟨rfl,Below.refl _ _⟩
          · injection ho with ho;subst ho
            refine .inl ⟨Flow.wanted_free rfl,?_⟩
            have t57:A.tmps[57]?.getD undef = .agg #[.slice r code.length d,.int .i64 b]:=he 4 (by kernel_rfl)
            have t59:A.tmps[59]?.getD undef = .int .i64 b:=he 6 (by kernel_rfl)
            go_simp
            refine Calls.mono (HMO.out _ W HGW.out.low) ?_
            rintro e' w' ⟨rfl,hb⟩
            exact ⟨_,rfl,rfl,hb⟩
        · intro xs W hW hV
          have q3:xs 3 = .int .i64 ((mostW code i0:Nat):Int):=hV 3 (by simp)
          have q7:xs 7 = .int .i64 ((mostW code b:Nat):Int):=hV 7 (by simp)
          have m1:=HM0.out
          have m2:¬ ((mostW code b:Nat):Int)<((mostW code i0:Nat):Int):=by omega
          have HGV6:=Lib.hid (HGV.out.grown hW)
          simp only [List.length_cons,List.length_nil,Nat.zero_add,Nat.reduceAdd,List.drop_succ_cons,List.drop_zero,Flow.putL,Act.put,List.setIfInBounds_toArray,List.set_cons_zero,List.set_cons_succ,q3,q7]
          clear hV hW q3 q7 HGV HM0 m1
          go_wp2_with fail
          go_loopg [12] (code.length) (fun gg v12 wx=>∃ (n:Nat) (s:St),n<=code.length/\gg=code.length - n/\v12 = .int .i64 (n:Nat)/\Hid (GoN code n s)/\Hid (GoV w2 g10 g11 r code.length d b s wx))
          case atStart=>exact ⟨0,⟨i0,f0⟩,Nat.zero_le _,by omega,rfl,HGN,HGV6⟩
          case round =>
            obtain ⟨n,⟨ia,fa⟩,hn,rfl,rfl,HN,HV⟩:=hrel
            have hs11:Sits wr g11 52 #[.int .i64 ia,.int .u64 (fa 0),.int .u64 (fa 1),.int .u64 (fa 2),.int .u64 (fa 3),.int .u64 (fa 4),.int .u64 (fa 5),.int .u64 (fa 6),.int .u64 (fa 7)]:=HV.out.hs
            have x0:=HV.out.hx.cell 0
            have x1:=HV.out.hx.cell 1
            have lx:=HV.out.hx.lt
            have s0:=hs11.cell 0
            have s1:=hs11.cell 1
            have s2:=hs11.cell 2
            have s3:=hs11.cell 3
            have s4:=hs11.cell 4
            have s5:=hs11.cell 5
            have s6:=hs11.cell 6
            have s7:=hs11.cell 7
            have s8:=hs11.cell 8
            have ls:=hs11.lt
            have HNX:Hid (∀ W,Below w2.heap.size w2 W->Calls Tryz.prog 14 #[.agg #[.slice r code.length d,.int .i64 b],.agg #[.int .i64 ia,.int .u64 (fa 0),.int .u64 (fa 1),.int .u64 (fa 2),.int .u64 (fa 3),.int .u64 (fa 4),.int .u64 (fa 5),.int .u64 (fa 6),.int .u64 (fa 7)]] W (Made (.returned (nextR (nextF code ⟨ia,fa⟩))) W)):=Lib.hid (fun W h=>next_any code HSA.out.len HSA.out.ok r d b ⟨ia,fa⟩ HN.out.reg W (HC.out.below h))
            generalize hnx:nextF code ⟨ia,fa⟩=ox at HNX
            cases ox with
            | none =>
              have HNX:Hid (∀ W,Below w2.heap.size w2 W->Calls Tryz.prog 14 #[.agg #[.slice r code.length d,.int .i64 b],.agg #[.int .i64 ia,.int .u64 (fa 0),.int .u64 (fa 1),.int .u64 (fa 2),.int .u64 (fa 3),.int .u64 (fa 4),.int .u64 (fa 5),.int .u64 (fa 6),.int .u64 (fa 7)]] W (Made (.returned (.tuple #[.agg #[.int .u8 0,.int .u8 0,.int .i64 0,.int .u64 0,.int .u64 0],.bool false])) W)):=HNX
              have HST:=Lib.hid (HSA.out.fall.stop HN.out.stay hnx)
              clear hnx
              go_wp2_with fail
              refine (HNX.out _ HV.out.low).mono ?_
              rintro e w7 ⟨rfl,hb⟩
              have HV7:=Lib.hid (HV.out.grown hb)
              clear hb x0 x1 lx ls s0 s1 s2 s3 s4 s5 s6 s7 s8 hs11 HNX HV
              go_upto_region 30 with (fail)
              have HV8:=Lib.hid (HV7.out.grown (one_low w7 (.cells #[.int .u8 0,.int .u8 0,.int .i64 0,.int .u64 0,.int .u64 0] 57)))
              change Code.wp _ _ _ _ (w7.alloc (.cells #[.int .u8 0,.int .u8 0,.int .i64 0,.int .u64 0,.int .u64 0] 57))
              generalize w7.alloc (.cells #[.int .u8 0,.int .u8 0,.int .i64 0,.int .u64 0,.int .u64 0] 57)=w8 at HV8 ⊢
              clear HV7
              have hs11:Sits w8 g11 52 #[.int .i64 ia,.int .u64 (fa 0),.int .u64 (fa 1),.int .u64 (fa 2),.int .u64 (fa 3),.int .u64 (fa 4),.int .u64 (fa 5),.int .u64 (fa 6),.int .u64 (fa 7)]:=HV8.out.hs
              have x0:=HV8.out.hx.cell 0
              have x1:=HV8.out.hx.cell 1
              have lx:=HV8.out.hx.lt
              have s0:=hs11.cell 0
              have s1:=hs11.cell 1
              have s2:=hs11.cell 2
              have s3:=hs11.cell 3
              have s4:=hs11.cell 4
              have s5:=hs11.cell 5
              have s6:=hs11.cell 6
              have s7:=hs11.cell 7
              have s8:=hs11.cell 8
              have ls:=hs11.lt
              have HED:Hid (∀ W,Calls Tryz.prog 20 #[.agg #[.slice r code.length d,.int .i64 b],.agg #[.int .i64 ia,.int .u64 (fa 0),.int .u64 (fa 1),.int .u64 (fa 2),.int .u64 (fa 3),.int .u64 (fa 4),.int .u64 (fa 5),.int .u64 (fa 6),.int .u64 (fa 7)]] W (Made (.returned (.bool (endF code.length ia))) W)):=Lib.hid (fun W=>ended_any r code.length d b ⟨ia,fa⟩ W)
              go_wp2_with fail
              refine (HED.out _).mono ?_
              rintro e w9 ⟨rfl,hb⟩
              have HV9:=Lib.hid (HV8.out.grown hb)
              clear hb x0 x1 lx ls s0 s1 s2 s3 s4 s5 s6 s7 s8 hs11 HED HV8
              rcases HST.out with hno | ⟨y,hy,hk9⟩
              · rw [end_none hno]
                have HL9:=Lib.hid HV9.out.low
                clear hno HST HV9
                go_wp2_with fail
                go_roundg (ths.length - (i+1))
                case measure=>have:=HIL.out;omega
                case rel=>exact ⟨i+1,HIL.out,rfl,by go_num,HL9⟩
              · have hy':atI code ia=some y:=hy
                rw [end_some hy']
                obtain ⟨h0,htop,hxy⟩:=atI_some hy'
                obtain ⟨kk,rfl⟩:=Int.eq_ofNat_of_zero_le h0
                have hxy':code[kk]? = some y:=by simpa using hxy
                have hkl:kk<code.length:=(List.getElem?_eq_some_iff.1 hxy').1
                obtain ⟨gc,oc,pa,pb,rfl,hlc,_,_,hcell⟩:=(HC.out.below HV9.out.low).at_ hxy'
                have hs11:Sits w9 g11 52 #[.int .i64 (kk:Nat),.int .u64 (fa 0),.int .u64 (fa 1),.int .u64 (fa 2),.int .u64 (fa 3),.int .u64 (fa 4),.int .u64 (fa 5),.int .u64 (fa 6),.int .u64 (fa 7)]:=HV9.out.hs
                have c9:w9.cell? ⟨gc,oc+kk * 8,none⟩=some (.int .u8 9):=(hcell 0 (by decide)).trans (by
                  show some (Value.int .u8 (y.kind:Int))=_
                  rw [hk9];rfl)
                have x0:=HV9.out.hx.cell 0
                have x1:=HV9.out.hx.cell 1
                have lx:=HV9.out.hx.lt
                have s0:=hs11.cell 0
                have ls:=hs11.lt
                have kl:(kk:Int)<(code.length:Int):=by omega
                have kz:(0:Int)<=(kk:Int):=by omega
                have HL9:=Lib.hid HV9.out.low
                clear hs11 hcell hy hy' hk9 hxy hxy' HST HV9 h0 htop hkl hn
                go_wp2_with fail
                go_roundg (ths.length - (i+1))
                case measure=>have:=HIL.out;omega
                case rel=>exact ⟨i+1,HIL.out,rfl,by go_num,HL9⟩
            | some ac =>
              obtain ⟨ak,am,aw,aa,ab⟩:=ac
              have HNX:Hid (∀ W,Below w2.heap.size w2 W->Calls Tryz.prog 14 #[.agg #[.slice r code.length d,.int .i64 b],.agg #[.int .i64 ia,.int .u64 (fa 0),.int .u64 (fa 1),.int .u64 (fa 2),.int .u64 (fa 3),.int .u64 (fa 4),.int .u64 (fa 5),.int .u64 (fa 6),.int .u64 (fa 7)]] W (Made (.returned (.tuple #[.agg #[.int .u8 ak,.int .u8 am,.int .i64 aw,.int .u64 aa,.int .u64 ab],.bool true])) W)):=HNX
              have HDN:=Lib.hid (fun v=>HSA.out.fall.done hnx v)
              have HDC:Hid (∀ v W,U64 v->Below w2.heap.size w2 W->Calls Tryz.prog 21 #[.agg #[.slice r code.length d,.int .i64 b],.agg #[.int .i64 ia,.int .u64 (fa 0),.int .u64 (fa 1),.int .u64 (fa 2),.int .u64 (fa 3),.int .u64 (fa 4),.int .u64 (fa 5),.int .u64 (fa 6),.int .u64 (fa 7)],.int .u64 v] W (Made (.returned (stV (doneF code ⟨ia,fa⟩ v))) W)):=Lib.hid (fun v W hv h=>done_any code HSA.out.len HSA.out.ok r d b ⟨ia,fa⟩ HN.out.reg v hv W (HC.out.below h))
              have HDR:=Lib.hid (fun v (hv:U64 v)=>done_64 HSA.out.ok HN.out.reg hv)
              have HUP:Hid (∀ W,Calls Tryz.prog 27 #[.agg #[.int .u8 ak,.int .u8 am,.int .i64 aw,.int .u64 aa,.int .u64 ab]] W (Made (.returned (.bool (updK ak))) W)):=Lib.hid (fun W=>update_any ⟨ak,am,aw,aa,ab⟩ W)
              have HNL:=Lib.hid (show n<code.length by have:=(HDN.out 0).2.1;have:=HN.out.left;omega)
              clear hnx
              go_wp2_with fail
              refine (HNX.out _ HV.out.low).mono ?_
              rintro e w7 ⟨rfl,hb⟩
              have HV7:=Lib.hid (HV.out.grown hb)
              clear hb x0 x1 lx ls s0 s1 s2 s3 s4 s5 s6 s7 s8 hs11 HNX HV
              go_upto_region 17 with (fail)
              have HV8:=Lib.hid (HV7.out.grown (one_low w7 (.cells #[.int .u8 ak,.int .u8 am,.int .i64 aw,.int .u64 aa,.int .u64 ab] 57)))
              have HA8:=Lib.hid (Sits.new w7 57 #[.int .u8 ak,.int .u8 am,.int .i64 aw,.int .u64 aa,.int .u64 ab])
              change Code.wp _ _ _ _ (w7.alloc (.cells #[.int .u8 ak,.int .u8 am,.int .i64 aw,.int .u64 aa,.int .u64 ab] 57))
              generalize w7.alloc (.cells #[.int .u8 ak,.int .u8 am,.int .i64 aw,.int .u64 aa,.int .u64 ab] 57)=w8 at HV8 HA8 ⊢
              generalize w7.heap.size=g13 at HA8 ⊢
              clear HV7
              have nl:¬ ((code.length:Int)<=(n:Int)):=by have:=HNL.out;omega
              have hs11:Sits w8 g11 52 #[.int .i64 ia,.int .u64 (fa 0),.int .u64 (fa 1),.int .u64 (fa 2),.int .u64 (fa 3),.int .u64 (fa 4),.int .u64 (fa 5),.int .u64 (fa 6),.int .u64 (fa 7)]:=HV8.out.hs
              have x0:=HV8.out.hx.cell 0
              have x1:=HV8.out.hx.cell 1
              have lx:=HV8.out.hx.lt
              have s0:=hs11.cell 0
              have s1:=hs11.cell 1
              have s2:=hs11.cell 2
              have s3:=hs11.cell 3
              have s4:=hs11.cell 4
              have s5:=hs11.cell 5
              have s6:=hs11.cell 6
              have s7:=hs11.cell 7
              have s8:=hs11.cell 8
              have ls:=hs11.lt
              by_cases hL:L.length=0
              · have z0:¬ ((0:Int)<(L.length:Int)):=by omega
                clear hL hn
                go_wp2_with fail
                clear z0
                refine (HMO.out _ w8 HV8.out.low).mono ?_
                rintro e w9 ⟨rfl,hb⟩
                have HV9:=Lib.hid (HV8.out.grown hb)
                have HA9:=Lib.hid (HA8.out.below hb HA8.out.lt)
                clear hb x0 x1 lx ls s0 s1 s2 s3 s4 s5 s6 s7 s8 hs11 nl HV8 HA8
                have hs11:Sits w9 g11 52 #[.int .i64 ia,.int .u64 (fa 0),.int .u64 (fa 1),.int .u64 (fa 2),.int .u64 (fa 3),.int .u64 (fa 4),.int .u64 (fa 5),.int .u64 (fa 6),.int .u64 (fa 7)]:=HV9.out.hs
                have x0:=HV9.out.hx.cell 0
                have x1:=HV9.out.hx.cell 1
                have lx:=HV9.out.hx.lt
                have s0:=hs11.cell 0
                have s1:=hs11.cell 1
                have s2:=hs11.cell 2
                have s3:=hs11.cell 3
                have s4:=hs11.cell 4
                have s5:=hs11.cell 5
                have s6:=hs11.cell 6
                have s7:=hs11.cell 7
                have s8:=hs11.cell 8
                have ls:=hs11.lt
                go_wp2_with fail
                refine (HDC.out (0) w9 ⟨show (0:Int)<=0 by decide,show (0:Int)<18446744073709551616 by decide⟩ HV9.out.low).mono ?_
                rintro e w10 ⟨rfl,hb⟩
                obtain ⟨hst,h0,hlt,hmo⟩:=HDN.out (0)
                have hrg:=HDR.out (0) ⟨show (0:Int)<=0 by decide,show (0:Int)<18446744073709551616 by decide⟩
                generalize doneF code ⟨ia,fa⟩ (0)=s2 at hst hlt hmo hrg ⊢
                obtain ⟨ib,fb⟩:=s2
                have HGN:Hid (GoN code (n+1) ⟨ib,fb⟩):=Lib.hid ⟨hst,by have h1:ib<ia:=hlt;have h2:ia+(n:Int)<(code.length:Int):=HN.out.left;show ib+((n+1:Nat):Int)<(code.length:Int);omega,hrg⟩
                have HLT:Hid (ib<ia):=Lib.hid hlt
                have HMW:Hid (mostW code ib+(if wrK ak=true then 1 else 0)<=mostW code ia):=Lib.hid hmo
                have HMF:Hid (mostW code ia<=32):=Lib.hid (Nat.le_trans (most_few wrK code ia) HSA.out.len)
                have HV10:=Lib.hid (HV9.out.grown hb)
                have HA10:=Lib.hid (HA9.out.below hb HA9.out.lt)
                clear hb hst h0 hlt hmo hrg x0 x1 lx ls s0 s1 s2 s3 s4 s5 s6 s7 s8 hs11 HV9 HA9 HDN HDR HDC
                go_upto_region 24 with (fail)
                have HV11:=Lib.hid (HV10.out.grown (one_low w10 (.cells #[.int .i64 ib,.int .u64 (fb 0),.int .u64 (fb 1),.int .u64 (fb 2),.int .u64 (fb 3),.int .u64 (fb 4),.int .u64 (fb 5),.int .u64 (fb 6),.int .u64 (fb 7)] 52)))
                have HA11:=Lib.hid (HA10.out.below (one_low w10 (.cells #[.int .i64 ib,.int .u64 (fb 0),.int .u64 (fb 1),.int .u64 (fb 2),.int .u64 (fb 3),.int .u64 (fb 4),.int .u64 (fb 5),.int .u64 (fb 6),.int .u64 (fb 7)] 52)) HA10.out.lt)
                have HS11:=Lib.hid (Sits.new w10 52 #[.int .i64 ib,.int .u64 (fb 0),.int .u64 (fb 1),.int .u64 (fb 2),.int .u64 (fb 3),.int .u64 (fb 4),.int .u64 (fb 5),.int .u64 (fb 6),.int .u64 (fb 7)])
                change Code.wp _ _ _ _ (w10.alloc (.cells #[.int .i64 ib,.int .u64 (fb 0),.int .u64 (fb 1),.int .u64 (fb 2),.int .u64 (fb 3),.int .u64 (fb 4),.int .u64 (fb 5),.int .u64 (fb 6),.int .u64 (fb 7)] 52))
                generalize w10.alloc (.cells #[.int .i64 ib,.int .u64 (fb 0),.int .u64 (fb 1),.int .u64 (fb 2),.int .u64 (fb 3),.int .u64 (fb 4),.int .u64 (fb 5),.int .u64 (fb 6),.int .u64 (fb 7)] 52)=w11 at HV11 HA11 HS11 ⊢
                generalize w10.heap.size=g17 at HS11 ⊢
                clear HV10 HA10
                have a0:=HA11.out.cell 0
                have a1:=HA11.out.cell 1
                have a2:=HA11.out.cell 2
                have a3:=HA11.out.cell 3
                have a4:=HA11.out.cell 4
                have la:=HA11.out.lt
                have x0:=HV11.out.hx.cell 0
                have x1:=HV11.out.hx.cell 1
                have lx:=HV11.out.hx.lt
                have t0:=HS11.out.cell 0
                have lt:=HS11.out.lt
                by_cases k3:ak=3
                · subst k3
                  have e3:((3:Int) == 3)=true:=rfl
                  have HWK3:Hid (wrK 3=true):=Lib.hid rfl
                  go_wp2_with fail
                  clear a0 a1 a2 a3 a4 la x0 x1 lx t0 lt e3
                  have mo:mostW code ib+1<=mostW code ia:=by have h:=HMW.out;rw [if_pos HWK3.out] at h;exact h
                  have n4:((mostW code ia:Nat):Int)<=32:=by have:=HMF.out;omega
                  have n1:¬ (((mostW code ia:Nat):Int) - 1<((mostW code ib:Nat):Int)):=by omega
                  have n3:(1:Int)<=((mostW code ia:Nat):Int):=by omega
                  have n2:¬ (ia<=ib):=by have:=HLT.out;omega
                  clear mo
                  refine (HMO.out _ w11 HV11.out.low).mono ?_
                  rintro e w13 ⟨rfl,hb⟩
                  have HV13:=Lib.hid (HV11.out.grown hb)
                  have HS13:=Lib.hid (HS11.out.below hb HS11.out.lt)
                  clear hb
                  have s0:w13.cell? ⟨g11,0,none⟩=some (.int .i64 ia):=HV13.out.hs.cell 0
                  have ls:=HV13.out.hs.lt
                  have n5:(n:Int)<=32:=by have:=HNL.out;have h32:code.length<=32:=HSA.out.len;omega
                  have n6:(0:Int)<=(n:Int):=by omega
                  have t0:=HS13.out.cell 0
                  have t1:=HS13.out.cell 1
                  have t2:=HS13.out.cell 2
                  have t3:=HS13.out.cell 3
                  have t4:=HS13.out.cell 4
                  have t5:=HS13.out.cell 5
                  have t6:=HS13.out.cell 6
                  have t7:=HS13.out.cell 7
                  have t8:=HS13.out.cell 8
                  have lt:=HS13.out.lt
                  go_wp2_with (refine wpList_store_row rfl 52 _ _ rfl g11 #[.int .i64 ib,.int .u64 (fb 0),.int .u64 (fb 1),.int .u64 (fb 2),.int .u64 (fb 3),.int .u64 (fb 4),.int .u64 (fb 5),.int .u64 (fb 6),.int .u64 (fb 7)] rfl rfl 52 _ HV13.out.hs stSize rfl (st_one ⟨ib,fb⟩) ?_)
                  go_roundg (code.length - (n+1))
                  case measure=>have:=HNL.out;omega
                  case rel=>exact ⟨n+1,⟨ib,fb⟩,HNL.out,rfl,by go_num,HGN,Lib.hid (HV13.out.put HG11.out.1 HG11.out.2 ⟨ib,fb⟩)⟩
                · have e3:((ak:Int) == 3)=false:=nbeq k3
                  cases hu:updK ak with
                  | true =>
                    have HWK3:Hid (wrK ak=true):=Lib.hid (by unfold updK at hu;unfold wrK;simp at hu ⊢;omega)
                    rw [hu] at HUP
                    clear hu k3
                    go_wp2_with fail
                    refine (HUP.out _).mono ?_
                    rintro e w12 ⟨rfl,hb⟩
                    have HV12:=Lib.hid (HV11.out.grown hb)
                    have HS12:=Lib.hid (HS11.out.below hb HS11.out.lt)
                    clear hb a0 a1 a2 a3 a4 la x0 x1 lx t0 lt
                    have x0:=HV12.out.hx.cell 0
                    have x1:=HV12.out.hx.cell 1
                    have lx:=HV12.out.hx.lt
                    have t0:=HS12.out.cell 0
                    have lt:=HS12.out.lt
                    go_wp2_with fail
                    clear x0 x1 lx t0 lt e3
                    have mo:mostW code ib+1<=mostW code ia:=by have h:=HMW.out;rw [if_pos HWK3.out] at h;exact h
                    have n4:((mostW code ia:Nat):Int)<=32:=by have:=HMF.out;omega
                    have n1:¬ (((mostW code ia:Nat):Int) - 1<((mostW code ib:Nat):Int)):=by omega
                    have n3:(1:Int)<=((mostW code ia:Nat):Int):=by omega
                    have n2:¬ (ia<=ib):=by have:=HLT.out;omega
                    clear mo
                    refine (HMO.out _ w12 HV12.out.low).mono ?_
                    rintro e w13 ⟨rfl,hb⟩
                    have HV13:=Lib.hid (HV12.out.grown hb)
                    have HS13:=Lib.hid (HS12.out.below hb HS12.out.lt)
                    clear hb
                    have s0:w13.cell? ⟨g11,0,none⟩=some (.int .i64 ia):=HV13.out.hs.cell 0
                    have ls:=HV13.out.hs.lt
                    have n5:(n:Int)<=32:=by have:=HNL.out;have h32:code.length<=32:=HSA.out.len;omega
                    have n6:(0:Int)<=(n:Int):=by omega
                    have t0:=HS13.out.cell 0
                    have t1:=HS13.out.cell 1
                    have t2:=HS13.out.cell 2
                    have t3:=HS13.out.cell 3
                    have t4:=HS13.out.cell 4
                    have t5:=HS13.out.cell 5
                    have t6:=HS13.out.cell 6
                    have t7:=HS13.out.cell 7
                    have t8:=HS13.out.cell 8
                    have lt:=HS13.out.lt
                    go_wp2_with (refine wpList_store_row rfl 52 _ _ rfl g11 #[.int .i64 ib,.int .u64 (fb 0),.int .u64 (fb 1),.int .u64 (fb 2),.int .u64 (fb 3),.int .u64 (fb 4),.int .u64 (fb 5),.int .u64 (fb 6),.int .u64 (fb 7)] rfl rfl 52 _ HV13.out.hs stSize rfl (st_one ⟨ib,fb⟩) ?_)
                    go_roundg (code.length - (n+1))
                    case measure=>have:=HNL.out;omega
                    case rel=>exact ⟨n+1,⟨ib,fb⟩,HNL.out,rfl,by go_num,HGN,Lib.hid (HV13.out.put HG11.out.1 HG11.out.2 ⟨ib,fb⟩)⟩
                  | false =>
                    have HWK3:Hid (¬ wrK ak=true):=Lib.hid (by unfold updK at hu;unfold wrK;simp at hu ⊢;omega)
                    rw [hu] at HUP
                    clear hu k3
                    go_wp2_with fail
                    refine (HUP.out _).mono ?_
                    rintro e w12 ⟨rfl,hb⟩
                    have HV12:=Lib.hid (HV11.out.grown hb)
                    have HS12:=Lib.hid (HS11.out.below hb HS11.out.lt)
                    clear hb a0 a1 a2 a3 a4 la x0 x1 lx t0 lt
                    have x0:=HV12.out.hx.cell 0
                    have x1:=HV12.out.hx.cell 1
                    have lx:=HV12.out.hx.lt
                    have t0:=HS12.out.cell 0
                    have lt:=HS12.out.lt
                    go_wp2_with fail
                    clear x0 x1 lx t0 lt e3
                    have mo:mostW code ib+0<=mostW code ia:=by have h:=HMW.out;rw [if_neg HWK3.out] at h;exact h
                    have n4:((mostW code ia:Nat):Int)<=32:=by have:=HMF.out;omega
                    have n1:¬ (((mostW code ia:Nat):Int)<((mostW code ib:Nat):Int)):=by omega
                    have n2:¬ (ia<=ib):=by have:=HLT.out;omega
                    clear mo
                    refine (HMO.out _ w12 HV12.out.low).mono ?_
                    rintro e w13 ⟨rfl,hb⟩
                    have HV13:=Lib.hid (HV12.out.grown hb)
                    have HS13:=Lib.hid (HS12.out.below hb HS12.out.lt)
                    clear hb
                    have s0:w13.cell? ⟨g11,0,none⟩=some (.int .i64 ia):=HV13.out.hs.cell 0
                    have ls:=HV13.out.hs.lt
                    have n5:(n:Int)<=32:=by have:=HNL.out;have h32:code.length<=32:=HSA.out.len;omega
                    have n6:(0:Int)<=(n:Int):=by omega
                    have t0:=HS13.out.cell 0
                    have t1:=HS13.out.cell 1
                    have t2:=HS13.out.cell 2
                    have t3:=HS13.out.cell 3
                    have t4:=HS13.out.cell 4
                    have t5:=HS13.out.cell 5
                    have t6:=HS13.out.cell 6
                    have t7:=HS13.out.cell 7
                    have t8:=HS13.out.cell 8
                    have lt:=HS13.out.lt
                    go_wp2_with (refine wpList_store_row rfl 52 _ _ rfl g11 #[.int .i64 ib,.int .u64 (fb 0),.int .u64 (fb 1),.int .u64 (fb 2),.int .u64 (fb 3),.int .u64 (fb 4),.int .u64 (fb 5),.int .u64 (fb 6),.int .u64 (fb 7)] rfl rfl 52 _ HV13.out.hs stSize rfl (st_one ⟨ib,fb⟩) ?_)
                    go_roundg (code.length - (n+1))
                    case measure=>have:=HNL.out;omega
                    case rel=>exact ⟨n+1,⟨ib,fb⟩,HNL.out,rfl,by go_num,HGN,Lib.hid (HV13.out.put HG11.out.1 HG11.out.2 ⟨ib,fb⟩)⟩
              · have z0:(0:Int)<(L.length:Int):=by omega
                have hml:n % L.length<L.length:=Nat.mod_lt _ (by omega)
                have hmx:L[n % L.length]? = some L[n % L.length]:=List.getElem?_eq_getElem hml
                have tm:(n:Int).tmod (L.length:Int)=((n % L.length:Nat):Int):=(Int.ofNat_tmod n L.length).symm
                generalize hrv:L[n % L.length]=rv at hmx
                have HRV:Hid (U64 (rv:Int)):=Lib.hid ⟨by omega,by have:=H64.out rv (List.mem_of_getElem? hmx);omega⟩
                generalize n % L.length=mm at hml hmx tm
                obtain ⟨gr,ogr,cpr,er,_,_,ur⟩:=(HRL.out.below HV8.out.low).item hmx
                injection er with er _ er2
                subst er er2
                have lgr:=World.block_lt_of_cell? _ _ ur
                have y1:(mm:Int)<(L.length:Int):=by omega
                have y0:(0:Int)<=(mm:Int):=by omega
                clear hml hmx hrv hL hn
                go_wp2_with fail
                clear tm ur lgr y1 y0
                clear z0
                refine (HMO.out _ w8 HV8.out.low).mono ?_
                rintro e w9 ⟨rfl,hb⟩
                have HV9:=Lib.hid (HV8.out.grown hb)
                have HA9:=Lib.hid (HA8.out.below hb HA8.out.lt)
                clear hb x0 x1 lx ls s0 s1 s2 s3 s4 s5 s6 s7 s8 hs11 nl HV8 HA8
                have hs11:Sits w9 g11 52 #[.int .i64 ia,.int .u64 (fa 0),.int .u64 (fa 1),.int .u64 (fa 2),.int .u64 (fa 3),.int .u64 (fa 4),.int .u64 (fa 5),.int .u64 (fa 6),.int .u64 (fa 7)]:=HV9.out.hs
                have x0:=HV9.out.hx.cell 0
                have x1:=HV9.out.hx.cell 1
                have lx:=HV9.out.hx.lt
                have s0:=hs11.cell 0
                have s1:=hs11.cell 1
                have s2:=hs11.cell 2
                have s3:=hs11.cell 3
                have s4:=hs11.cell 4
                have s5:=hs11.cell 5
                have s6:=hs11.cell 6
                have s7:=hs11.cell 7
                have s8:=hs11.cell 8
                have ls:=hs11.lt
                go_wp2_with fail
                refine (HDC.out ((rv:Int)) w9 HRV.out HV9.out.low).mono ?_
                rintro e w10 ⟨rfl,hb⟩
                obtain ⟨hst,h0,hlt,hmo⟩:=HDN.out ((rv:Int))
                have hrg:=HDR.out ((rv:Int)) HRV.out
                generalize doneF code ⟨ia,fa⟩ ((rv:Int))=s2 at hst hlt hmo hrg ⊢
                obtain ⟨ib,fb⟩:=s2
                have HGN:Hid (GoN code (n+1) ⟨ib,fb⟩):=Lib.hid ⟨hst,by have h1:ib<ia:=hlt;have h2:ia+(n:Int)<(code.length:Int):=HN.out.left;show ib+((n+1:Nat):Int)<(code.length:Int);omega,hrg⟩
                have HLT:Hid (ib<ia):=Lib.hid hlt
                have HMW:Hid (mostW code ib+(if wrK ak=true then 1 else 0)<=mostW code ia):=Lib.hid hmo
                have HMF:Hid (mostW code ia<=32):=Lib.hid (Nat.le_trans (most_few wrK code ia) HSA.out.len)
                have HV10:=Lib.hid (HV9.out.grown hb)
                have HA10:=Lib.hid (HA9.out.below hb HA9.out.lt)
                clear hb hst h0 hlt hmo hrg x0 x1 lx ls s0 s1 s2 s3 s4 s5 s6 s7 s8 hs11 HV9 HA9 HDN HDR HDC
                go_upto_region 24 with (fail)
                have HV11:=Lib.hid (HV10.out.grown (one_low w10 (.cells #[.int .i64 ib,.int .u64 (fb 0),.int .u64 (fb 1),.int .u64 (fb 2),.int .u64 (fb 3),.int .u64 (fb 4),.int .u64 (fb 5),.int .u64 (fb 6),.int .u64 (fb 7)] 52)))
                have HA11:=Lib.hid (HA10.out.below (one_low w10 (.cells #[.int .i64 ib,.int .u64 (fb 0),.int .u64 (fb 1),.int .u64 (fb 2),.int .u64 (fb 3),.int .u64 (fb 4),.int .u64 (fb 5),.int .u64 (fb 6),.int .u64 (fb 7)] 52)) HA10.out.lt)
                have HS11:=Lib.hid (Sits.new w10 52 #[.int .i64 ib,.int .u64 (fb 0),.int .u64 (fb 1),.int .u64 (fb 2),.int .u64 (fb 3),.int .u64 (fb 4),.int .u64 (fb 5),.int .u64 (fb 6),.int .u64 (fb 7)])
                change Code.wp _ _ _ _ (w10.alloc (.cells #[.int .i64 ib,.int .u64 (fb 0),.int .u64 (fb 1),.int .u64 (fb 2),.int .u64 (fb 3),.int .u64 (fb 4),.int .u64 (fb 5),.int .u64 (fb 6),.int .u64 (fb 7)] 52))
                generalize w10.alloc (.cells #[.int .i64 ib,.int .u64 (fb 0),.int .u64 (fb 1),.int .u64 (fb 2),.int .u64 (fb 3),.int .u64 (fb 4),.int .u64 (fb 5),.int .u64 (fb 6),.int .u64 (fb 7)] 52)=w11 at HV11 HA11 HS11 ⊢
                generalize w10.heap.size=g17 at HS11 ⊢
                clear HV10 HA10
                have a0:=HA11.out.cell 0
                have a1:=HA11.out.cell 1
                have a2:=HA11.out.cell 2
                have a3:=HA11.out.cell 3
                have a4:=HA11.out.cell 4
                have la:=HA11.out.lt
                have x0:=HV11.out.hx.cell 0
                have x1:=HV11.out.hx.cell 1
                have lx:=HV11.out.hx.lt
                have t0:=HS11.out.cell 0
                have lt:=HS11.out.lt
                by_cases k3:ak=3
                · subst k3
                  have e3:((3:Int) == 3)=true:=rfl
                  have HWK3:Hid (wrK 3=true):=Lib.hid rfl
                  go_wp2_with fail
                  clear a0 a1 a2 a3 a4 la x0 x1 lx t0 lt e3
                  have mo:mostW code ib+1<=mostW code ia:=by have h:=HMW.out;rw [if_pos HWK3.out] at h;exact h
                  have n4:((mostW code ia:Nat):Int)<=32:=by have:=HMF.out;omega
                  have n1:¬ (((mostW code ia:Nat):Int) - 1<((mostW code ib:Nat):Int)):=by omega
                  have n3:(1:Int)<=((mostW code ia:Nat):Int):=by omega
                  have n2:¬ (ia<=ib):=by have:=HLT.out;omega
                  clear mo
                  refine (HMO.out _ w11 HV11.out.low).mono ?_
                  rintro e w13 ⟨rfl,hb⟩
                  have HV13:=Lib.hid (HV11.out.grown hb)
                  have HS13:=Lib.hid (HS11.out.below hb HS11.out.lt)
                  clear hb
                  have s0:w13.cell? ⟨g11,0,none⟩=some (.int .i64 ia):=HV13.out.hs.cell 0
                  have ls:=HV13.out.hs.lt
                  have n5:(n:Int)<=32:=by have:=HNL.out;have h32:code.length<=32:=HSA.out.len;omega
                  have n6:(0:Int)<=(n:Int):=by omega
                  have t0:=HS13.out.cell 0
                  have t1:=HS13.out.cell 1
                  have t2:=HS13.out.cell 2
                  have t3:=HS13.out.cell 3
                  have t4:=HS13.out.cell 4
                  have t5:=HS13.out.cell 5
                  have t6:=HS13.out.cell 6
                  have t7:=HS13.out.cell 7
                  have t8:=HS13.out.cell 8
                  have lt:=HS13.out.lt
                  go_wp2_with (refine wpList_store_row rfl 52 _ _ rfl g11 #[.int .i64 ib,.int .u64 (fb 0),.int .u64 (fb 1),.int .u64 (fb 2),.int .u64 (fb 3),.int .u64 (fb 4),.int .u64 (fb 5),.int .u64 (fb 6),.int .u64 (fb 7)] rfl rfl 52 _ HV13.out.hs stSize rfl (st_one ⟨ib,fb⟩) ?_)
                  go_roundg (code.length - (n+1))
                  case measure=>have:=HNL.out;omega
                  case rel=>exact ⟨n+1,⟨ib,fb⟩,HNL.out,rfl,by go_num,HGN,Lib.hid (HV13.out.put HG11.out.1 HG11.out.2 ⟨ib,fb⟩)⟩
                · have e3:((ak:Int) == 3)=false:=nbeq k3
                  cases hu:updK ak with
                  | true =>
                    have HWK3:Hid (wrK ak=true):=Lib.hid (by unfold updK at hu;unfold wrK;simp at hu ⊢;omega)
                    rw [hu] at HUP
                    clear hu k3
                    go_wp2_with fail
                    refine (HUP.out _).mono ?_
                    rintro e w12 ⟨rfl,hb⟩
                    have HV12:=Lib.hid (HV11.out.grown hb)
                    have HS12:=Lib.hid (HS11.out.below hb HS11.out.lt)
                    clear hb a0 a1 a2 a3 a4 la x0 x1 lx t0 lt
                    have x0:=HV12.out.hx.cell 0
                    have x1:=HV12.out.hx.cell 1
                    have lx:=HV12.out.hx.lt
                    have t0:=HS12.out.cell 0
                    have lt:=HS12.out.lt
                    go_wp2_with fail
                    clear x0 x1 lx t0 lt e3
                    have mo:mostW code ib+1<=mostW code ia:=by have h:=HMW.out;rw [if_pos HWK3.out] at h;exact h
                    have n4:((mostW code ia:Nat):Int)<=32:=by have:=HMF.out;omega
                    have n1:¬ (((mostW code ia:Nat):Int) - 1<((mostW code ib:Nat):Int)):=by omega
                    have n3:(1:Int)<=((mostW code ia:Nat):Int):=by omega
                    have n2:¬ (ia<=ib):=by have:=HLT.out;omega
                    clear mo
                    refine (HMO.out _ w12 HV12.out.low).mono ?_
                    rintro e w13 ⟨rfl,hb⟩
                    have HV13:=Lib.hid (HV12.out.grown hb)
                    have HS13:=Lib.hid (HS12.out.below hb HS12.out.lt)
                    clear hb
                    have s0:w13.cell? ⟨g11,0,none⟩=some (.int .i64 ia):=HV13.out.hs.cell 0
                    have ls:=HV13.out.hs.lt
                    have n5:(n:Int)<=32:=by have:=HNL.out;have h32:code.length<=32:=HSA.out.len;omega
                    have n6:(0:Int)<=(n:Int):=by omega
                    have t0:=HS13.out.cell 0
                    have t1:=HS13.out.cell 1
                    have t2:=HS13.out.cell 2
                    have t3:=HS13.out.cell 3
                    have t4:=HS13.out.cell 4
                    have t5:=HS13.out.cell 5
                    have t6:=HS13.out.cell 6
                    have t7:=HS13.out.cell 7
                    have t8:=HS13.out.cell 8
                    have lt:=HS13.out.lt
                    go_wp2_with (refine wpList_store_row rfl 52 _ _ rfl g11 #[.int .i64 ib,.int .u64 (fb 0),.int .u64 (fb 1),.int .u64 (fb 2),.int .u64 (fb 3),.int .u64 (fb 4),.int .u64 (fb 5),.int .u64 (fb 6),.int .u64 (fb 7)] rfl rfl 52 _ HV13.out.hs stSize rfl (st_one ⟨ib,fb⟩) ?_)
                    go_roundg (code.length - (n+1))
                    case measure=>have:=HNL.out;omega
                    case rel=>exact ⟨n+1,⟨ib,fb⟩,HNL.out,rfl,by go_num,HGN,Lib.hid (HV13.out.put HG11.out.1 HG11.out.2 ⟨ib,fb⟩)⟩
                  | false =>
                    have HWK3:Hid (¬ wrK ak=true):=Lib.hid (by unfold updK at hu;unfold wrK;simp at hu ⊢;omega)
                    rw [hu] at HUP
                    clear hu k3
                    go_wp2_with fail
                    refine (HUP.out _).mono ?_
                    rintro e w12 ⟨rfl,hb⟩
                    have HV12:=Lib.hid (HV11.out.grown hb)
                    have HS12:=Lib.hid (HS11.out.below hb HS11.out.lt)
                    clear hb a0 a1 a2 a3 a4 la x0 x1 lx t0 lt
                    have x0:=HV12.out.hx.cell 0
                    have x1:=HV12.out.hx.cell 1
                    have lx:=HV12.out.hx.lt
                    have t0:=HS12.out.cell 0
                    have lt:=HS12.out.lt
                    go_wp2_with fail
                    clear x0 x1 lx t0 lt e3
                    have mo:mostW code ib+0<=mostW code ia:=by have h:=HMW.out;rw [if_neg HWK3.out] at h;exact h
                    have n4:((mostW code ia:Nat):Int)<=32:=by have:=HMF.out;omega
                    have n1:¬ (((mostW code ia:Nat):Int)<((mostW code ib:Nat):Int)):=by omega
                    have n2:¬ (ia<=ib):=by have:=HLT.out;omega
                    clear mo
                    refine (HMO.out _ w12 HV12.out.low).mono ?_
                    rintro e w13 ⟨rfl,hb⟩
                    have HV13:=Lib.hid (HV12.out.grown hb)
                    have HS13:=Lib.hid (HS12.out.below hb HS12.out.lt)
                    clear hb
                    have s0:w13.cell? ⟨g11,0,none⟩=some (.int .i64 ia):=HV13.out.hs.cell 0
                    have ls:=HV13.out.hs.lt
                    have n5:(n:Int)<=32:=by have:=HNL.out;have h32:code.length<=32:=HSA.out.len;omega
                    have n6:(0:Int)<=(n:Int):=by omega
                    have t0:=HS13.out.cell 0
                    have t1:=HS13.out.cell 1
                    have t2:=HS13.out.cell 2
                    have t3:=HS13.out.cell 3
                    have t4:=HS13.out.cell 4
                    have t5:=HS13.out.cell 5
                    have t6:=HS13.out.cell 6
                    have t7:=HS13.out.cell 7
                    have t8:=HS13.out.cell 8
                    have lt:=HS13.out.lt
                    go_wp2_with (refine wpList_store_row rfl 52 _ _ rfl g11 #[.int .i64 ib,.int .u64 (fb 0),.int .u64 (fb 1),.int .u64 (fb 2),.int .u64 (fb 3),.int .u64 (fb 4),.int .u64 (fb 5),.int .u64 (fb 6),.int .u64 (fb 7)] rfl rfl 52 _ HV13.out.hs stSize rfl (st_one ⟨ib,fb⟩) ?_)
                    go_roundg (code.length - (n+1))
                    case measure=>have:=HNL.out;omega
                    case rel=>exact ⟨n+1,⟨ib,fb⟩,HNL.out,rfl,by go_num,HGN,Lib.hid (HV13.out.put HG11.out.1 HG11.out.2 ⟨ib,fb⟩)⟩
      · obtain rfl:i=ths.length:=by omega
        have c1:¬ ((ths.length:Int)<(ths.length:Int)):=by omega
        clear hi hil
        go_wp2_with fail
        refine (HWK.out _ (HB2.out.trans (HW.out.mono HB2.out.size))).mono ?_
        rintro e w' ⟨rfl,hb⟩
        have HE:=Lib.hid ((HB2.out.trans (HW.out.mono HB2.out.size)).trans (hb.mono (HB2.out.trans (HW.out.mono HB2.out.size)).size))
        clear hb
        go_wp2_with fail
        go_ret
        exact ⟨rfl,HE.out⟩
end Go.Proofs.YtagebkachdmnbaaGreatDoor.Thr
end
