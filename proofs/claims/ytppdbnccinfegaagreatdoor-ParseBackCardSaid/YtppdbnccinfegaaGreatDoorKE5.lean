/- Part 46 of the proof: what is used of the texts PbkW, PbkB. -/
import Derived.Test.YtppdbnccinfegaaGreatDoorKE1
import Derived.Test.YtppdbnccinfegaaGreatDoorKE2
import Derived.Deep.DeepCutAuto
import Derived.Test.YtppdbnccinfegaaGreatDoorKE4
import Derived.Test.YtppdbnccinfegaaGreatDoorKE3
section
namespace Go.Proofs.YtppdbnccinfegaaGreatDoor.Prs
open Go.RowKit Go.Proofs.YtppdbnccinfegaaGreatDoor.Mem Go.Proofs.YtppdbnccinfegaaGreatDoor.Expr Go.Proofs.YtppdbnccinfegaaGreatDoor.Prog Go.Lib
theorem argV_below {w W:World} {pi:Option Addr} {ni ci:Nat} {pt:Option Addr} {nt ct:Nat} {al:Bool} {pa:Option Addr} {na ca:Nat} (h:ArgV w pi ni ci pt nt ct al pa na ca) (hb:Below w.heap.size w W):ArgV W pi ni ci pt nt ct al pa na ca :=
  ⟨h.bi,h.bt,h.ba,h.raw.below hb,fun hg=>by
    obtain ⟨t,e,v,r⟩:=h.read (hg.back hb)
    exact ⟨t,e,v.below hb,r⟩⟩
def OkAt (U:Nat) (w:World) (t:Ts) (e:Ending) (W:World):Prop:=∃ pi ni ci pt nt ct pa,e = .returned (.tuple #[.agg #[.slice pi ni ci,.slice pt nt ct,.bool t.all,.pointer pa],.agg #[.int .i64 0,.int .i64 0],.int .i64 0])/\TestV W t (.slice pi ni ci) (.slice pt nt ct) (.pointer pa)/\Below U w W
theorem ok_at {s:ByteArray} {t:Ts} {w0 w W:World} {e:Ending} (hr:parseAll s.data.toList = .ok t) (hl:Below w0.heap.size w0 w) (h:ParseMade (parseAll s.data.toList) w e W):OkAt w0.heap.size w0 t e W/\Below w.heap.size w W:=by
  rw [hr] at h
  obtain ⟨hb,vi,vt,pa,he,hv⟩:=h
  obtain ⟨pi,ci,rfl⟩:=hv.init.len
  obtain ⟨pt,ct,rfl⟩:=hv.threads.len
  exact ⟨⟨pi,_,ci,pt,_,ct,pa,he,hv,hl.trans (hb.mono hl.size)⟩,hb⟩
theorem str_size (l:List UInt8):(str l).size=l.length:=by simp [str,ByteArray.size]
structure Holding (w0:World) (g:Nat) (t:Ts) (pi:Option Addr) (ni ci:Nat) (pt:Option Addr) (nt ct:Nat) (pa:Option Addr) (W:World):Prop where
  box:Sits W g 27 #[.slice pi ni ci,.slice pt nt ct,.bool t.all,.pointer pa]
  v:TestV W t (.slice pi ni ci) (.slice pt nt ct) (.pointer pa)
  low:Below w0.heap.size w0 W
theorem Holding.below {w0:World} {g:Nat} {t:Ts} {pi:Option Addr} {ni ci:Nat} {pt:Option Addr} {nt ct:Nat} {pa:Option Addr} {W W':World} (h:Holding w0 g t pi ni ci pt nt ct pa W) (hb:Below W.heap.size W W'):Holding w0 g t pi ni ci pt nt ct pa W' :=
  ⟨h.box.below hb h.box.lt,h.v.below hb,h.low.trans (hb.mono h.low.size)⟩
def readW (w:World) (t:Ts) (pi:Option Addr) (ni ci:Nat) (pt:Option Addr) (nt ct:Nat) (pa:Option Addr):World:=(w.alloc (.cells #[.slice pi ni ci,.slice pt nt ct,.bool t.all,.pointer pa] 27)).alloc (.cells #[.int .i64 0,.int .i64 0] 29)
theorem read_low (w:World) (t:Ts) (pi:Option Addr) (ni ci:Nat) (pt:Option Addr) (nt ct:Nat) (pa:Option Addr):Below w.heap.size w (readW w t pi ni ci pt nt ct pa):=((Below.refl _ _).alloc (Nat.le_refl _) _).alloc (by simp) _
theorem read_hold {w0 w:World} {t:Ts} {pi:Option Addr} {ni ci:Nat} {pt:Option Addr} {nt ct:Nat} {pa:Option Addr} (hl:Below w0.heap.size w0 w) (hv:TestV w t (.slice pi ni ci) (.slice pt nt ct) (.pointer pa)):Holding w0 w.heap.size t pi ni ci pt nt ct pa (readW w t pi ni ci pt nt ct pa) :=
  ⟨(Sits.new _ _ _).alloc _,hv.below (read_low _ _ _ _ _ _ _ _ _),hl.trans ((read_low _ _ _ _ _ _ _ _ _).mono hl.size)⟩
set_option maxRecDepth 100000 in
set_option maxHeartbeats 2000000 in
theorem back_any (pi:Option Addr) (ni ci:Nat) (pt:Option Addr) (nt ct:Nat) (al:Bool) (pa:Option Addr) (na ca:Nat) (s:ByteArray) (w:World) (hS:ArgV w pi ni ci pt nt ct al pa na ca) (hs:s.size<=9223372036854775807) (hX:Prog.All w) :
    Calls Tryz.prog 4 #[.agg #[.slice pi ni ci,.slice pt nt ct,.bool al,.slice pa na ca],.string s] w fun e w'=>Made (.returned (.bool true)) w e w':=by
  have hb:Below w.heap.size w (w.alloc (.cells #[.slice pi ni ci,.slice pt nt ct,.bool al,.slice pa na ca] 37)):=(Below.refl _ _).alloc (Nat.le_refl _) _
  have HB0:=Lib.hid hb
  have HBX:=Lib.hid (Sits.new w 37 #[.slice pi ni ci,.slice pt nt ct,.bool al,.slice pa na ca])
  have HWK:=Lib.hid (fun W (h:Below w.heap.size w W)=>woken_any W (hX.below h))
  have HPS:=Lib.hid (fun W (h:Below w.heap.size w W)=>parse_any s W hs (hX.below h))
  have HMAY:=Lib.hid (may_any pi ni ci pt nt ct al pa na ca _ (argV_below hS hb))
  have HX:=Lib.hid hX
  clear hb hS hX hs
  by_cases h45:(4500:Int)<(s.size:Int)
  · clear HPS HMAY HBX
    go_enter Tryz.func4,Tryz.ntmps4
    go_wp2_with fail
    refine (HWK.out _ HB0.out).mono ?_
    rintro e w' ⟨rfl,hb⟩
    have HE:=Lib.hid (HB0.out.trans (hb.mono HB0.out.size))
    clear hb
    go_wp2_with fail
    go_ret
    exact ⟨rfl,HE.out⟩
  go_enter Tryz.func4,Tryz.ntmps4
  go_wp2_with fail
  clear h45
  generalize w.alloc (.cells #[.slice pi ni ci,.slice pt nt ct,.bool al,.slice pa na ca] 37)=w0 at HB0 HBX HMAY ⊢
  generalize w.heap.size=gb at HBX ⊢
  refine HMAY.out.mono ?_
  rintro e w1 ⟨z,rfl,hb,hz⟩
  have HB1:=Lib.hid (HB0.out.trans (hb.mono HB0.out.size))
  have HX1:=Lib.hid (HBX.out.below hb HBX.out.lt)
  have HLB:=Lib.hid hb
  have HZ:=Lib.hid hz
  clear hb hz HMAY
  go_upto_if 22 with (fail)
  go_cut [] (fun wx=>Hid (Below w.heap.size w wx))
  case first =>
    cases z
    · go_wp2_with fail
      go_meet
      exact HB1
    obtain ⟨t,et,hv,hm,hd,hf,hp,hy⟩:=HZ.out rfl
    have hprt:=prints_of hp hf hd hy
    have hgs:=tsOf_good hm hprt.proper hd
    have hof:∀ W,Below w1.heap.size w1 W->Calls Tryz.prog 15 #[.agg #[.slice pi ni ci,.slice pt nt ct,.bool al,.slice pa na ca]] W fun e W'=>∃ pi' ni' ci' pt' nt' ct' pa',e = .returned (.agg #[.slice pi' ni' ci',.slice pt' nt' ct',.bool (tsOf t).all,.pointer pa'])/\TestV W' (tsOf t) (.slice pi' ni' ci') (.slice pt' nt' ct') (.pointer pa')/\Below W.heap.size W W':=fun W hW=>by
      subst et
      refine (of_test t hd ⟨by have:=hm.threads;omega,by have:=hm.init;omega⟩ _ _ _ W ((hv.below HLB.out).below hW)).mono ?_
      rintro e W' ⟨vi,vt,va,rfl,hu,hb⟩
      have h:=hu.v
      obtain ⟨pi',ci',rfl⟩:=h.init.len
      obtain ⟨pt',ct',rfl⟩:=h.threads.len
      obtain ⟨pa',rfl,_⟩:=h.ask.ptr
      exact ⟨_,_,_,_,_,_,_,rfl,h,hb⟩
    have HOF:=Lib.hid (hof w1 (Below.refl _ _))
    generalize tsOf t=T at HOF hprt hgs
    have HP:=Lib.hid hprt
    have HG:=Lib.hid hgs
    clear et hv hm hd hf hp hy hprt hgs hof HZ HLB HPS
    have a0:=HX1.out.cell 0
    have a1:=HX1.out.cell 1
    have a2:=HX1.out.cell 2
    have a3:=HX1.out.cell 3
    have la:=HX1.out.lt
    go_wp2_with fail
    clear a0 a1 a2 a3 la
    refine HOF.out.mono ?_
    rintro e w2 ⟨pi',ni',ci',pt',nt',ct',pa',rfl,hv,hb⟩
    have HB2:=Lib.hid (HB1.out.trans (hb.mono HB1.out.size))
    have hlow:Below w2.heap.size w2 (w2.alloc (.cells #[.slice pi' ni' ci',.slice pt' nt' ct',.bool T.all,.pointer pa'] 27)):=(Below.refl _ _).alloc (Nat.le_refl _) _
    have HH:=Lib.hid (show Holding w w2.heap.size T pi' ni' ci' pt' nt' ct' pa' _ from ⟨Sits.new _ _ _,hv.below hlow,HB2.out.trans (hlow.mono HB2.out.size)⟩)
    clear hv hb hlow HOF HX1
    go_wp2_with fail
    generalize w2.alloc (.cells #[.slice pi' ni' ci',.slice pt' nt' ct',.bool T.all,.pointer pa'] 27)=w3 at HH ⊢
    generalize w2.heap.size=g2 at HH ⊢
    refine (text_test T HG.out.2 _ _ _ w3 (HX.out.below HH.out.low) HH.out.v).mono ?_
    rintro e w4 ⟨rfl,hb⟩
    have HH4:=Lib.hid (HH.out.below hb)
    have HSZ:=Lib.hid (str_size T.text)
    have HDT:=Lib.hid (show (str T.text).data.toList=T.text by simp [str])
    clear hb HH
    generalize str T.text=sb at HSZ HDT ⊢
    by_cases hlen:(sb.size:Int)<=4096
    case neg =>
      go_wp2_with fail
      go_meet
      exact Lib.hid HH4.out.low
    have HBK:=Lib.hid (show parseAll sb.data.toList = .ok T by rw [HDT.out];exact parse_back HP.out (by have:=HSZ.out;omega))
    have HPB:=Lib.hid (parse_any sb w4 (by omega) (HX.out.below HH4.out.low))
    go_wp2_with fail
    clear hlen
    refine HPB.out.mono ?_
    intro e w5 hm
    obtain ⟨⟨pi5,ni5,ci5,pt5,nt5,ct5,pa5,rfl,hv,hb⟩,hb4⟩:=ok_at HBK.out HH4.out.low hm
    have hh:=read_hold hb hv
    have hx5:=HH4.out.below hb4
    have d0:=hx5.box.cell 0
    have d1:=hx5.box.cell 1
    have d2:=hx5.box.cell 2
    have d3:=hx5.box.cell 3
    have ld:=hx5.box.lt
    have hh2:=(HH4.out.below hb4).below (read_low w5 T pi5 ni5 ci5 pt5 nt5 ct5 pa5)
    unfold readW at hh hh2
    have HH5:=Lib.hid hh
    have HH2:=Lib.hid hh2
    clear hm hv hb hb4 hh hh2 HPB hx5
    go_wp2_with fail
    clear d0 d1 d2 d3 ld
    generalize (w5.alloc (.cells #[.slice pi5 ni5 ci5,.slice pt5 nt5 ct5,.bool T.all,.pointer pa5] 27)).alloc (.cells #[.int .i64 0,.int .i64 0] 29)=w6 at HH5 HH2 ⊢
    refine (same_test T T HG.out.1 _ _ _ _ _ _ w6 HH2.out.v HH5.out.v).mono ?_
    rintro e w7 ⟨he,hb⟩
    rw [decide_eq_true rfl] at he
    subst he
    have HE:=Lib.hid (HH5.out.low.trans (hb.mono HH5.out.low.size))
    clear hb
    go_wp2_with fail
    go_meet
    exact HE
  case rest =>
    have HC:=hcut
    clear hcut HZ HLB HX1 HB1 HB0 HBX
    go_wp2_with fail
    refine (HPS.out wc HC.out).mono ?_
    intro e w2 hm
    cases hr:parseAll s.data.toList with
    | err l c er =>
      rw [hr] at hm
      obtain ⟨hb,he⟩:=hm
      have he:e = .returned (.tuple #[.agg #[.slice none 0 0,.slice none 0 0,.bool false,.pointer none],.agg #[.int .i64 l,.int .i64 c],.int .i64 er]):=he
      subst he
      have hne:¬ ((er:Int)=0):=by have:=parse_er hr;omega
      have hlow:Below w2.heap.size w2 ((w2.alloc (.cells #[.slice none 0 0,.slice none 0 0,.bool false,.pointer none] 27)).alloc (.cells #[.int .i64 l,.int .i64 c] 29)):=((Below.refl _ _).alloc (Nat.le_refl _) _).alloc (by simp) _
      have hb2:=HC.out.trans (hb.mono HC.out.size)
      have HB3:=Lib.hid (hb2.trans (hlow.mono hb2.size))
      clear hb hlow hb2 hr HPS
      go_wp2_with fail
      refine (HWK.out _ HB3.out).mono ?_
      rintro e w3 ⟨rfl,hb⟩
      have HE:=Lib.hid (HB3.out.trans (hb.mono HB3.out.size))
      clear hb
      go_wp2_with fail
      go_ret
      exact ⟨rfl,HE.out⟩
    | ok T =>
      have HRD:=Lib.hid (read_of hr)
      obtain ⟨⟨pi4,ni4,ci4,pt4,nt4,ct4,pa4,rfl,hv,hb⟩,_⟩:=ok_at hr HC.out hm
      have hh:=read_hold hb hv
      unfold readW at hh
      have HH3:=Lib.hid hh
      clear hm hv hb hh hr HPS
      go_wp2_with fail
      generalize (w2.alloc (.cells #[.slice pi4 ni4 ci4,.slice pt4 nt4 ct4,.bool T.all,.pointer pa4] 27)).alloc (.cells #[.int .i64 0,.int .i64 0] 29)=w3 at HH3 ⊢
      generalize w2.heap.size=g2 at HH3 ⊢
      refine (text_test T (Read.good HRD.out).2 _ _ _ w3 (HX.out.below HH3.out.low) HH3.out.v).mono ?_
      rintro e w4 ⟨rfl,hb⟩
      have HH4:=Lib.hid (HH3.out.below hb)
      have HSZ:=Lib.hid (str_size T.text)
      have HDT:=Lib.hid (show (str T.text).data.toList=T.text by simp [str])
      clear hb HH3
      generalize str T.text=sb at HSZ HDT ⊢
      by_cases hlen:(4096:Int)<(sb.size:Int)
      · go_wp2_with fail
        refine (HWK.out _ HH4.out.low).mono ?_
        rintro e w5 ⟨rfl,hb⟩
        have HE:=Lib.hid (HH4.out.low.trans (hb.mono HH4.out.low.size))
        clear hb
        go_wp2_with fail
        go_ret
        exact ⟨rfl,HE.out⟩
      have HBK:=Lib.hid (show parseAll sb.data.toList = .ok T by rw [HDT.out];exact parse_back HRD.out.prints (by have:=HSZ.out;omega))
      have HPB:=Lib.hid (parse_any sb w4 (by omega) (HX.out.below HH4.out.low))
      go_wp2_with fail
      clear hlen
      refine HPB.out.mono ?_
      intro e w5 hm
      obtain ⟨⟨pi5,ni5,ci5,pt5,nt5,ct5,pa5,rfl,hv,hb⟩,hb4⟩:=ok_at HBK.out HH4.out.low hm
      have hh:=read_hold hb hv
      have hx5:=HH4.out.below hb4
      have d0:=hx5.box.cell 0
      have d1:=hx5.box.cell 1
      have d2:=hx5.box.cell 2
      have d3:=hx5.box.cell 3
      have ld:=hx5.box.lt
      have hh2:=hx5.below (read_low w5 T pi5 ni5 ci5 pt5 nt5 ct5 pa5)
      unfold readW at hh hh2
      have HH5:=Lib.hid hh
      have HH2:=Lib.hid hh2
      clear hm hv hb hb4 hh hh2 HPB hx5
      go_wp2_with fail
      clear d0 d1 d2 d3 ld
      generalize (w5.alloc (.cells #[.slice pi5 ni5 ci5,.slice pt5 nt5 ct5,.bool T.all,.pointer pa5] 27)).alloc (.cells #[.int .i64 0,.int .i64 0] 29)=w6 at HH5 HH2 ⊢
      refine (same_test T T (Read.good HRD.out).1 _ _ _ _ _ _ w6 HH2.out.v HH5.out.v).mono ?_
      rintro e w7 ⟨he,hb⟩
      rw [decide_eq_true rfl] at he
      subst he
      have HE:=Lib.hid (HH5.out.low.trans (hb.mono HH5.out.low.size))
      clear hb
      go_wp2_with fail
      refine (HWK.out _ HE.out).mono ?_
      rintro e w8 ⟨rfl,hb⟩
      have HF:=Lib.hid (HE.out.trans (hb.mono HE.out.size))
      clear hb
      go_wp2_with fail
      go_ret
      exact ⟨rfl,HF.out⟩
end Go.Proofs.YtppdbnccinfegaaGreatDoor.Prs
end
section
namespace Go.Proofs.YtppdbnccinfegaaGreatDoor.Prog
open Go.RowKit Go.ChangeShapes Go.WideShapes Go.ChangeAt Go.Proofs.YtppdbnccinfegaaGreatDoor.Card Go.Proofs.YtppdbnccinfegaaGreatDoor.Mem Go.Proofs.YtppdbnccinfegaaGreatDoor.Expr Go.Deep
noncomputable def fieldsAt (t:TypeId):Array Field:=match Tryz.prog.underlying t with
  | some (.struct fs)=>fs
  | _=>#[]
theorem mark_under:Tryz.prog.underlying 167=some (.struct (fieldsAt 167)):=by
  unfold fieldsAt;rw [Tryz.underlying167]
theorem init_under:Tryz.prog.underlying 141=some (.struct (fieldsAt 141)):=by
  unfold fieldsAt;rw [Tryz.underlying141]
theorem test_under:Tryz.prog.underlying 37=some (.struct (fieldsAt 37)):=by
  unfold fieldsAt;rw [Tryz.underlying37]
theorem mark_f0:((fieldsAt 167)[0]?).map (fun f=>(Tryz.prog.underlying f.type,f.offset,Tryz.prog.cellsOf f.type))=some (some (.int .u8),0,1):=by kernel_rfl
theorem mark_f1:((fieldsAt 167)[1]?).map (fun f=>(Tryz.prog.underlying f.type,f.offset,Tryz.prog.cellsOf f.type))=some (some (.int .u8),1,1):=by kernel_rfl
theorem mark_f2:((fieldsAt 167)[2]?).map (fun f=>(Tryz.prog.underlying f.type,f.offset,Tryz.prog.cellsOf f.type))=some (some (.int .u8),2,1):=by kernel_rfl
theorem mark_f3:((fieldsAt 167)[3]?).map (fun f=>(Tryz.prog.underlying f.type,f.offset,Tryz.prog.cellsOf f.type))=some (some (.int .u8),3,1):=by kernel_rfl
theorem mark_f4:((fieldsAt 167)[4]?).map (fun f=>(f.type,f.offset,Tryz.prog.cellsOf f.type))=some (35,4,1):=by kernel_rfl
theorem mark_f5:((fieldsAt 167)[5]?).map (fun f=>(f.type,f.offset,Tryz.prog.cellsOf f.type))=some (35,5,1):=by kernel_rfl
theorem mark_cells:Tryz.prog.cellsOf 167=6:=by kernel_rfl
theorem init_f0:((fieldsAt 141)[0]?).map (fun f=>(Tryz.prog.underlying f.type,f.offset,Tryz.prog.cellsOf f.type))=some (some (.int .u8),0,1):=by kernel_rfl
theorem init_f1:((fieldsAt 141)[1]?).map (fun f=>(Tryz.prog.underlying f.type,f.offset,Tryz.prog.cellsOf f.type))=some (some (.int .u64),1,1):=by kernel_rfl
theorem init_cells:Tryz.prog.cellsOf 141=2:=by kernel_rfl
theorem test_f0:((fieldsAt 37)[0]?).map (fun f=>(f.type,f.offset,Tryz.prog.cellsOf f.type))=some (33,0,1):=by kernel_rfl
theorem test_f1:((fieldsAt 37)[1]?).map (fun f=>(f.type,f.offset,Tryz.prog.cellsOf f.type))=some (34,1,1):=by kernel_rfl
theorem test_f2:((fieldsAt 37)[2]?).map (fun f=>(Tryz.prog.underlying f.type,f.offset,Tryz.prog.cellsOf f.type))=some (some .bool,2,1):=by kernel_rfl
theorem test_f3:((fieldsAt 37)[3]?).map (fun f=>(f.type,f.offset,Tryz.prog.cellsOf f.type))=some (35,3,1):=by kernel_rfl
theorem test_cells:Tryz.prog.cellsOf 37=4:=by kernel_rfl
theorem marks_cells:Tryz.prog.cellsOf 66=1:=by kernel_rfl
section
variable {H : Type} {enc : TypeId × Value → H} {w : World} {base : Nat} {sp : Nat → Bool} {held : Bool}
theorem field_at {n:Nat} {fs:Array Field} {xs:List (DataW H × List MemPlace)} {cs:List Value} {j o:Nat} {t:TypeId}
    (hi:(fs[j]?).map (fun f=>(f.type,f.offset,Tryz.prog.cellsOf f.type))=some (t,o,1)) (hx:xs.length=fs.size)
    (h:∀ (i:Nat) (f:Field),fs[i]? = some f->DataW.trod enc Tryz.prog w base sp held n f.type ((cs.drop f.offset).take (Tryz.prog.cellsOf f.type))=xs[i]?):∃ x,DataW.trod enc Tryz.prog w base sp held n t ((cs.drop o).take 1)=some x:=by
  obtain ⟨f,hf,he⟩:=Option.map_eq_some_iff.1 hi
  simp only [Prod.mk.injEq] at he
  obtain ⟨rfl,rfl,hc⟩:=he
  have hj:j<xs.length:=by rw [hx];exact (Array.getElem?_eq_some_iff.1 hf).1
  have h1:=h j f hf
  rw [List.getElem?_eq_getElem hj,hc] at h1
  exact ⟨_,h1⟩
theorem one_cell {cs:List Value} {o:Nat} {v:Value} (h:(cs.drop o).take 1=[v]):cs[o]? = some v:=by
  have:=congrArg (·[0]?) h
  simpa [List.getElem?_take,List.getElem?_drop] using this
set_option maxRecDepth 100000 in
/-- A row of items wherever it stands. -/
theorem items_open {n:Nat} {cs:List Value} {x:DataW H × List MemPlace} (h:DataW.trod enc Tryz.prog w base sp held n 35 cs=some x) :
    ∃ q len cap,cs=[.slice q len cap]/\len<=maxLen/\(len<=1000000->∃ l:List It,l.length=len/\(∀ a ∈ l,a.bd)/\Row w (.slice q len cap) l):=by
  rcases open_slice Tryz.underlying35 h with ⟨hcs,_⟩ | ⟨a,len,cap,m,n',D,Pl,hcs,_,hl,hm,hmm,_,hi⟩
  · exact ⟨none,0,0,hcs,Nat.zero_le _,fun _=>⟨[],rfl,(fun a ha=>by cases ha),.inl ⟨rfl,_,_,rfl⟩⟩⟩
  · refine ⟨some a,len,cap,hcs,by omega,fun hlen=>?_⟩
    have hml:len<=m:=by rw [hmm];split <;> omega
    cases len with
    | zero=>exact ⟨[],rfl,(fun a ha=>by cases ha),.inl ⟨rfl,_,_,rfl⟩⟩
    | succ k =>
      rw [item_cells] at hi
      obtain ⟨b,off,spot⟩:=a
      have hspot:spot=none:=by
        obtain ⟨cs,hc,ht⟩:=hi 0 (by omega)
        obtain ⟨_,hcl,hcc⟩:=World.cells?_some hc
        have h0:=hcc 0 (by omega)
        rw [List.getElem?_eq_getElem (by omega)] at h0
        have:=World.cell?_spot h0
        simpa [Addr.add] using this
      subst hspot
      have each:∀ i,i<k+1->∃ a:It,a.bd/\ItemAt w b (off+i * 6) a:=fun i hik=>by
        obtain ⟨cs,hc,ht⟩:=hi i (by omega)
        obtain ⟨_,hcl,hcc⟩:=World.cells?_some hc
        refine item_open ht fun j hj=>?_
        have:=hcc j hj
        rwa [add_plain,add_plain] at this
      obtain ⟨l,hll,hq⟩:=list_of each
      refine ⟨l,hll,fun a ha=>?_,.inr ⟨b,off,cap,by rw [hll],by rw [hll];exact hlen,fun i a ha=>(hq i a ha).2⟩⟩
      obtain ⟨i,hi'⟩:=List.getElem?_of_mem ha
      exact (hq i a hi').1
def MarkO (w:World) (g o:Nat):Prop:=∃ (kd rg md lc:Nat) (pa:Option Addr) (na ca:Nat) (pb:Option Addr) (nb cb:Nat),kd<256/\rg<256/\md<256/\lc<256/\w.cell? ⟨g,o,none⟩=some (.int .u8 kd)/\w.cell? ⟨g,o+1,none⟩=some (.int .u8 rg)/\w.cell? ⟨g,o+2,none⟩=some (.int .u8 md) /\
  w.cell? ⟨g,o+3,none⟩=some (.int .u8 lc)/\w.cell? ⟨g,o+4,none⟩=some (.slice pa na ca)/\w.cell? ⟨g,o+5,none⟩=some (.slice pb nb cb)/\na<=maxLen/\nb<=maxLen /\
  (na<=1000000->∃ l:List It,l.length=na/\(∀ a ∈ l,a.bd)/\Row w (.slice pa na ca) l)/\(nb<=1000000->∃ l:List It,l.length=nb/\(∀ a ∈ l,a.bd)/\Row w (.slice pb nb cb) l)
theorem mark_open {n:Nat} {cs:List Value} {x:DataW H × List MemPlace} (h:DataW.trod enc Tryz.prog w base sp held n 167 cs=some x) {g o:Nat} (hc:∀ j,j<6->w.cell? ⟨g,o+j,none⟩=cs[j]?):MarkO w g o:=by
  obtain ⟨xs,n',_,_,_,hxl,hf⟩:=DataW.trod_struct mark_under h
  obtain ⟨z0,h0,w0⟩:=field_int mark_f0 hxl hf
  obtain ⟨z1,h1,w1⟩:=field_int mark_f1 hxl hf
  obtain ⟨z2,h2,w2⟩:=field_int mark_f2 hxl hf
  obtain ⟨z3,h3,w3⟩:=field_int mark_f3 hxl hf
  obtain ⟨x4,h4⟩:=field_at mark_f4 hxl hf
  obtain ⟨x5,h5⟩:=field_at mark_f5 hxl hf
  obtain ⟨n0,rfl,b0⟩:=nat_of_u8 w0
  obtain ⟨n1,rfl,b1⟩:=nat_of_u8 w1
  obtain ⟨n2,rfl,b2⟩:=nat_of_u8 w2
  obtain ⟨n3,rfl,b3⟩:=nat_of_u8 w3
  obtain ⟨pa,na,ca,e4,l4,r4⟩:=items_open h4
  obtain ⟨pb,nb,cb,e5,l5,r5⟩:=items_open h5
  exact ⟨n0,n1,n2,n3,pa,na,ca,pb,nb,cb,b0,b1,b2,b3,(hc 0 (by omega)).trans h0,(hc 1 (by omega)).trans h1,(hc 2 (by omega)).trans h2,(hc 3 (by omega)).trans h3,(hc 4 (by omega)).trans (one_cell e4),(hc 5 (by omega)).trans (one_cell e5),l4,l5,r4,r5⟩
set_option maxRecDepth 100000 in
/-- A row of marks wherever it stands. -/
theorem marks_open {n:Nat} {cs:List Value} {x:DataW H × List MemPlace} (h:DataW.trod enc Tryz.prog w base sp held n 66 cs=some x) :
    ∃ q len cap,cs=[.slice q len cap]/\len<=maxLen/\∀ i,i<len->∃ g o,q=some ⟨g,o,none⟩/\MarkO w g (o+i * 6):=by
  rcases open_slice Tryz.underlying66 h with ⟨hcs,_⟩ | ⟨a,len,cap,m,n',D,Pl,hcs,_,hl,hm,hmm,_,hi⟩
  · exact ⟨none,0,0,hcs,Nat.zero_le _,fun i hi=>by omega⟩
  · refine ⟨some a,len,cap,hcs,by omega,fun i hik=>?_⟩
    have hml:len<=m:=by rw [hmm];split <;> omega
    rw [mark_cells] at hi
    obtain ⟨b,off,spot⟩:=a
    have hspot:spot=none:=by
      obtain ⟨cs,hc,ht⟩:=hi 0 (by omega)
      obtain ⟨_,hcl,hcc⟩:=World.cells?_some hc
      have h0:=hcc 0 (by omega)
      rw [List.getElem?_eq_getElem (by omega)] at h0
      have:=World.cell?_spot h0
      simpa [Addr.add] using this
    subst hspot
    refine ⟨b,off,rfl,?_⟩
    obtain ⟨cs,hc,ht⟩:=hi i (by omega)
    obtain ⟨_,hcl,hcc⟩:=World.cells?_some hc
    refine mark_open ht fun j hj=>?_
    have:=hcc j hj
    rwa [add_plain,add_plain] at this
set_option maxRecDepth 100000 in
/-- Threads wherever they stand. -/
theorem threads_open {n:Nat} {cs:List Value} {x:DataW H × List MemPlace} (h:DataW.trod enc Tryz.prog w base sp held n 34 cs=some x) :
    ∃ q len cap,cs=[.slice q len cap]/\len<=maxLen/\∀ i,i<len->∃ g o p k c,q=some ⟨g,o,none⟩/\w.cell? ⟨g,o+i,none⟩=some (.slice p k c)/\k<=maxLen/\∀ j,j<k->∃ g' o',p=some ⟨g',o',none⟩/\MarkO w g' (o' + j * 6):=by
  rcases open_slice1 Tryz.underlying34 marks_cells h with ⟨hcs,_⟩ | ⟨a,len,cap,m,n',V,D,Pl,hcs,_,hl,hm,hmm,_,hi⟩
  · exact ⟨none,0,0,hcs,Nat.zero_le _,fun i hi=>by omega⟩
  · refine ⟨some a,len,cap,hcs,by omega,fun i hik=>?_⟩
    have hml:len<=m:=by rw [hmm];split <;> omega
    obtain ⟨b,off,spot⟩:=a
    have hspot:spot=none:=by
      have:=World.cell?_spot (hi 0 (by omega)).1
      simpa [Addr.add] using this
    subst hspot
    obtain ⟨hc,ht⟩:=hi i (by omega)
    obtain ⟨p,k,c,e,hk,hj⟩:=marks_open ht
    injection e with e _
    rw [add_plain,e] at hc
    exact ⟨b,off,p,k,c,rfl,hc,hk,hj⟩
set_option maxRecDepth 100000 in
/-- Starting values wherever they stand. -/
theorem inits_open {n:Nat} {cs:List Value} {x:DataW H × List MemPlace} (h:DataW.trod enc Tryz.prog w base sp held n 33 cs=some x) :
    ∃ q len cap,cs=[.slice q len cap]/\len<=maxLen/\(len<=1000000->∃ l:List (Nat × Nat),l.length=len/\(∀ a ∈ l,a.1<256/\a.2<18446744073709551616)/\Inits w (.slice q len cap) l):=by
  rcases open_slice Tryz.underlying33 h with ⟨hcs,_⟩ | ⟨a,len,cap,m,n',D,Pl,hcs,_,hl,hm,hmm,_,hi⟩
  · exact ⟨none,0,0,hcs,Nat.zero_le _,fun _=>⟨[],rfl,(fun a ha=>by cases ha),.inl ⟨rfl,_,_,rfl⟩⟩⟩
  · refine ⟨some a,len,cap,hcs,by omega,fun hlen=>?_⟩
    have hml:len<=m:=by rw [hmm];split <;> omega
    cases len with
    | zero=>exact ⟨[],rfl,(fun a ha=>by cases ha),.inl ⟨rfl,_,_,rfl⟩⟩
    | succ k =>
      rw [init_cells] at hi
      obtain ⟨b,off,spot⟩:=a
      have hspot:spot=none:=by
        obtain ⟨cs,hc,ht⟩:=hi 0 (by omega)
        obtain ⟨_,hcl,hcc⟩:=World.cells?_some hc
        have h0:=hcc 0 (by omega)
        rw [List.getElem?_eq_getElem (by omega)] at h0
        have:=World.cell?_spot h0
        simpa [Addr.add] using this
      subst hspot
      have each:∀ i,i<k+1->∃ a:Nat × Nat,(a.1<256/\a.2<18446744073709551616)/\w.cell? ⟨b,off+i * 2,none⟩=some (.int .u8 a.1)/\w.cell? ⟨b,off+i * 2+1,none⟩=some (.int .u64 a.2):=fun i hik=>by
        obtain ⟨cs,hc,ht⟩:=hi i (by omega)
        obtain ⟨_,hcl,hcc⟩:=World.cells?_some hc
        obtain ⟨xs,n',_,_,_,hxl,hf⟩:=DataW.trod_struct init_under ht
        obtain ⟨z0,h0,w0⟩:=field_int init_f0 hxl hf
        obtain ⟨z1,h1,w1⟩:=field_int init_f1 hxl hf
        obtain ⟨n0,rfl,b0⟩:=nat_of_u8 w0
        obtain ⟨n1,rfl,b1⟩:=nat_of_u64 w1
        have c0:=hcc 0 (by omega)
        have c1:=hcc 1 (by omega)
        rw [add_plain,add_plain] at c0 c1
        exact ⟨(n0,n1),⟨b0,b1⟩,c0.trans h0,c1.trans h1⟩
      obtain ⟨l,hll,hq⟩:=list_of each
      refine ⟨l,hll,fun a ha=>?_,.inr ⟨b,off,cap,by rw [hll],trivial,by rw [hll];exact hlen,fun j u hu=>?_⟩⟩
      · obtain ⟨i,hi'⟩:=List.getElem?_of_mem ha
        exact (hq i a hi').1
      · have hj:j<(l.flatMap initCell).length:=(List.getElem?_eq_some_iff.1 hu).1
        have hfl:(l.flatMap initCell).length=2 * l.length:=by
          clear hu hj hq hll
          induction l with
          | nil=>rfl
          | cons a l ih=>rw [List.flatMap_cons,List.length_append,ih];simp only [initCell,List.length_cons,List.length_nil];omega
        have hi2:j / 2<l.length:=by omega
        have hx:l[j / 2]? = some l[j / 2]:=List.getElem?_eq_getElem hi2
        have h1:=initCells_at l (j / 2) _ hx
        have h2:=(hq (j / 2) _ hx).2
        by_cases hp:j % 2=0
        · have e:j / 2 * 2=j:=by omega
          rw [e] at h1 h2
          rw [h1.1] at hu
          rw [h2.1,<- Option.some.inj hu]
        · have e:j / 2 * 2+1=j:=by omega
          rw [show off+j / 2 * 2+1=off+(j / 2 * 2+1) by omega,e] at h2
          rw [e] at h1
          rw [h1.2] at hu
          rw [h2.2,<- Option.some.inj hu]
theorem marks_list {p:Option Addr} {n:Nat} {c:Nat} (hm:∀ j,j<n->∃ g' o',p=some ⟨g',o',none⟩/\MarkO w g' (o' + j * 6)) (hs:rowSmall w p n):∃ l:List Mark,l.length=n/\(∀ x ∈ l,x.bd)/\lean l/\MRow w (.slice p n c) l:=by
  have each:∀ j,j<n->∃ x:Mark,(x.bd/\slim x)/\∃ g o av bv,p=some ⟨g,o,none⟩/\MarkAt w g (o+j * 6) x av bv:=fun j hj=>by
    obtain ⟨g,o,rfl,kd,rg,md,lc,pa,na,ca,pb,nb,cb,b0,b1,b2,b3,c0,c1,c2,c3,c4,c5,_,_,ra,rb⟩:=hm j hj
    have h1:=hs.2 j g o hj rfl
    have ha:=h1.1 pa na ca c4
    have hb:=h1.2 pb nb cb c5
    obtain ⟨la,hla,hba,hra⟩:=ra (by omega)
    obtain ⟨lb,hlb,hbb,hrb⟩:=rb (by omega)
    exact ⟨⟨kd,rg,md,lc,la,lb⟩,⟨⟨b0,b1,b2,b3,hba,hbb⟩,⟨by show la.length<=30;omega,by show lb.length<=30;omega⟩⟩,g,o,_,_,rfl,c0,c1,c2,c3,c4,c5,hra,hrb⟩
  obtain ⟨l,hll,hq⟩:=list_of each
  have h60:=hs.1
  refine ⟨l,hll,fun x hx=>?_,⟨by omega,fun i x hx=>(hq i x hx).1.2⟩,?_⟩
  · obtain ⟨i,hi⟩:=List.getElem?_of_mem hx
    exact (hq i x hi).1.1
  · cases n with
    | zero=>exact .inl ⟨List.length_eq_zero_iff.1 hll,p,c,rfl⟩
    | succ k =>
      obtain ⟨g,o,hp,_⟩:=hm 0 (by omega)
      refine .inr ⟨g,o,c,by rw [hp,hll],by omega,fun i x hx=>?_⟩
      obtain ⟨g',o',av,bv,hp',hmk⟩:=(hq i x hx).2
      rw [hp] at hp'
      injection hp' with hp'
      injection hp' with h1 h2
      subst h1 h2
      exact ⟨av,bv,hmk⟩
set_option maxRecDepth 100000 in
theorem test_open {v:Value} {d:DataW H} {p:List MemPlace} (hv:Value.okWide Tryz.prog w .any base 37 v) (h:DataW.Trod enc Tryz.prog w 0 sp held 37 v d p) :
    ∃ pi ni ci pt nt ct al pa na ca,v = .agg #[.slice pi ni ci,.slice pt nt ct,.bool al,.slice pa na ca]/\ArgV w pi ni ci pt nt ct al pa na ca:=by
  obtain ⟨cs,rfl,hsz⟩:=okWide_struct test_under hv
  rw [test_cells] at hsz
  obtain ⟨n,hn⟩:=h
  obtain ⟨xs,n',_,_,_,hxl,hf⟩:=DataW.trod_struct test_under hn
  obtain ⟨x0,h0⟩:=field_at test_f0 hxl hf
  obtain ⟨x1,h1⟩:=field_at test_f1 hxl hf
  obtain ⟨x3,h3⟩:=field_at test_f3 hxl hf
  have h2:∃ al:Bool,cs.toList[2]? = some (.bool al):=by
    obtain ⟨f,hf',he⟩:=Option.map_eq_some_iff.1 test_f2
    simp only [Prod.mk.injEq] at he
    obtain ⟨hu,ho,hc⟩:=he
    have hj:2<xs.length:=by rw [hxl];exact (Array.getElem?_eq_some_iff.1 hf').1
    have h1:=hf 2 f hf'
    rw [List.getElem?_eq_getElem hj] at h1
    obtain ⟨b,hb,_⟩:=DataW.trod_bool hu h1
    rw [hc,ho] at hb
    exact ⟨b,one_cell hb⟩
  obtain ⟨al,e2⟩:=h2
  obtain ⟨pi,ni,ci,e0,l0,r0⟩:=inits_open h0
  obtain ⟨pt,nt,ct,e1,l1,r1⟩:=threads_open h1
  obtain ⟨pa,na,ca,e3,l3,r3⟩:=items_open h3
  have e0:=one_cell e0
  have e1:=one_cell e1
  have e3:=one_cell e3
  have hcs:cs=#[.slice pi ni ci,.slice pt nt ct,.bool al,.slice pa na ca]:=by
    apply Array.ext_getElem? fun i=>?_
    simp only [Value.cells] at e0 e1 e3
    by_cases hi:i<4
    · obtain rfl | rfl | rfl | rfl:i=0 \/ i=1 \/ i=2 \/ i=3:=by omega
      · simpa using e0
      · simpa using e1
      · simpa using e2
      · simpa using e3
    · rw [Array.getElem?_eq_none (by omega),Array.getElem?_eq_none (by simp;omega)]
  unfold maxLen at l0 l1 l3 r1
  refine ⟨pi,ni,ci,pt,nt,ct,al,pa,na,ca,by rw [hcs],l0,l1,l3,fun i hi=>?_,fun hs=>?_⟩
  · obtain ⟨g,o,p,k,c,hp,hc,hk,hm⟩:=r1 i hi
    refine ⟨g,o,p,k,c,hp,hc,hk,fun _ j hj=>?_⟩
    obtain ⟨g',o',hp',kd,rg,md,lc,pa,na,ca,pb,nb,cb,b0,b1,b2,b3,c0,c1,c2,c3,c4,c5,la,lb,_⟩:=hm j hj
    unfold maxLen at la lb
    exact ⟨g',o',pa,na,ca,pb,nb,cb,hp',c4,c5,la,lb⟩
  · obtain ⟨li,hli,hbi,hri⟩:=r0 (by have:=hs.init;omega)
    obtain ⟨la,hla,hba,hra⟩:=r3 (by have:=hs.ask;omega)
    have each:∀ i,i<nt->∃ l:List Mark,((∀ x ∈ l,x.bd)/\lean l)/\∃ g o u,pt=some ⟨g,o,none⟩/\w.cell? ⟨g,o+i,none⟩=some u/\MRow w u l:=fun i hi=>by
      obtain ⟨g,o,p,k,c,hp,hc,_,hm⟩:=r1 i hi
      obtain ⟨l,_,hb,hl,hr⟩:=marks_list (c:=c) hm (hs.each i hi g o p k c hp hc)
      exact ⟨l,⟨hb,hl⟩,g,o,_,hp,hc,hr⟩
    obtain ⟨lt,hlt,hq⟩:=list_of each
    have hMR:MRows w (.slice pt nt ct) lt:=by
      have hv:∃ vs:List Value,vs.length=nt/\∀ i u,vs[i]? = some u->∃ g o,pt=some ⟨g,o,none⟩/\w.cell? ⟨g,o+i,none⟩=some u:=by
        refine list_of (Q:=fun i u=>∃ g o,pt=some ⟨g,o,none⟩/\w.cell? ⟨g,o+i,none⟩=some u) fun i hi=>?_
        obtain ⟨g,o,p,k,c,hp,hc,_⟩:=r1 i hi
        exact ⟨_,g,o,hp,hc⟩
      obtain ⟨vs,hvl,hvs⟩:=hv
      refine ⟨vs,?_,by omega,fun i l u hl hu=>?_⟩
      · rw [hlt]
        cases nt with
        | zero=>exact .inl ⟨rfl,pt,ct,rfl⟩
        | succ k =>
          obtain ⟨g,o,p,_,c,hp,_⟩:=r1 0 (by omega)
          refine .inr ⟨g,o,ct,by rw [hp],trivial,by have:=hs.threads;omega,fun j u hu=>?_⟩
          obtain ⟨g',o',hp',hc⟩:=hvs j u hu
          rw [hp] at hp'
          injection hp' with hp'
          injection hp' with h1 h2
          subst h1 h2
          exact hc
      · obtain ⟨g,o,u',hp,hc,hm⟩:=(hq i l hl).2
        obtain ⟨g',o',hp',hc'⟩:=hvs i u hu
        rw [hp] at hp'
        injection hp' with hp'
        injection hp' with h1 h2
        subst h1 h2
        rw [hc] at hc'
        rw [<- Option.some.inj hc'];exact hm
    refine ⟨⟨li,lt,al,la⟩,rfl,⟨hri,hMR,hra⟩,⟨by show lt.length<=8;have:=hs.threads;omega,by show li.length<=10;have:=hs.init;omega,by show la.length<=30;have:=hs.ask;omega,fun i l hl=>(hq i l hl).1.2⟩,hba,hbi,fun l hl=>?_⟩
    obtain ⟨i,hi⟩:=List.getElem?_of_mem hl
    exact (hq i l hi).1.1
end
end Go.Proofs.YtppdbnccinfegaaGreatDoor.Prog
end
