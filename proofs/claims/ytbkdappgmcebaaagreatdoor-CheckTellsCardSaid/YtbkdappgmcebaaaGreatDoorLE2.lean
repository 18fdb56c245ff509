/- Part 43 of the proof: what is used of the texts PbkA, PbkB. -/
import Derived.Test.YtbkdappgmcebaaaGreatDoorLC1
import Derived.Test.YtbkdappgmcebaaaGreatDoorLD5
import Derived.Test.YtbkdappgmcebaaaGreatDoorLE1
import Derived.Test.YtbkdappgmcebaaaGreatDoorLD1
import Derived.Test.YtbkdappgmcebaaaGreatDoorLA3
section
namespace Go.Proofs.YtbkdappgmcebaaaGreatDoor.Prog
open Go.RowKit Go.Proofs.YtbkdappgmcebaaaGreatDoor.Mem Go.Proofs.YtbkdappgmcebaaaGreatDoor.Expr Go.Lib
def GRow (w:World) (p:Option Addr) (n:Nat):Prop:=∀ k,k<n->∃ g o pa na ca pb nb cb,p=some ⟨g,o,none⟩/\w.cell? ⟨g,o+k * 6+4,none⟩=some (.slice pa na ca)/\w.cell? ⟨g,o+k * 6+5,none⟩=some (.slice pb nb cb)/\na<=9223372036854775807/\nb<=9223372036854775807
def GrV (w:World) (pt:Option Addr) (nt:Nat):Prop:=∀ i,i<nt->∃ g o p n c,pt=some ⟨g,o,none⟩/\w.cell? ⟨g,o+i,none⟩=some (.slice p n c)/\n<=9223372036854775807/\(n<=60->GRow w p n)
def rowSmall (w:World) (p:Option Addr) (n:Nat):Prop:=n<=60/\∀ k g o,k<n->p=some ⟨g,o,none⟩->(∀ pa na ca,w.cell? ⟨g,o+k * 6+4,none⟩=some (.slice pa na ca)->na<=30)/\∀ pb nb cb,w.cell? ⟨g,o+k * 6+5,none⟩=some (.slice pb nb cb)->nb<=30
def thrSmall (w:World) (pt:Option Addr) (i:Nat):Prop:=∀ g o p n c,pt=some ⟨g,o,none⟩->w.cell? ⟨g,o+i,none⟩=some (.slice p n c)->rowSmall w p n
structure GSmall (w:World) (ni:Nat) (pt:Option Addr) (nt na:Nat):Prop where
  init:ni<=10
  threads:nt<=8
  ask:na<=30
  each:∀ i,i<nt->thrSmall w pt i
set_option maxRecDepth 100000 in
set_option maxHeartbeats 2000000 in
theorem great_raw (pi:Option Addr) (ni ci:Nat) (pt:Option Addr) (nt ct:Nat) (al:Bool) (pa:Option Addr) (na ca:Nat) (w:World) (bi:ni<=9223372036854775807) (bt:nt<=9223372036854775807) (ba:na<=9223372036854775807) (hG:GrV w pt nt) :
    Calls Tryz.prog 11 #[.agg #[.slice pi ni ci,.slice pt nt ct,.bool al,.slice pa na ca]] w (Told0 (GSmall w ni pt nt na) w):=by
  have hb:Below w.heap.size w (w.alloc (.cells #[.slice pi ni ci,.slice pt nt ct,.bool al,.slice pa na ca] 37)):=(Below.refl _ _).alloc (Nat.le_refl _) _
  have HG:=Lib.hid hG
  have HB0:=Lib.hid hb
  have HBX:=Lib.hid (Sits.new w 37 #[.slice pi ni ci,.slice pt nt ct,.bool al,.slice pa na ca])
  clear hG hb
  by_cases h1:8<nt
  · have k1:(8:Int)<(nt:Int):=by omega
    clear h1
    go_enter Tryz.func11,Tryz.ntmps11
    go_wp2_with fail
    go_ret
    exact ⟨true,rfl,by simp,HB0.out⟩
  have k1:¬ (8:Int)<(nt:Int):=by omega
  by_cases h2:10<ni
  · have k2:(10:Int)<(ni:Int):=by omega
    clear h1 h2
    go_enter Tryz.func11,Tryz.ntmps11
    go_wp2_with fail
    go_ret
    exact ⟨true,rfl,by simp,HB0.out⟩
  have k2:¬ (10:Int)<(ni:Int):=by omega
  by_cases h3:30<na
  · have k3:(30:Int)<(na:Int):=by omega
    clear h1 h2 h3
    go_enter Tryz.func11,Tryz.ntmps11
    go_wp2_with fail
    go_ret
    exact ⟨true,rfl,by simp,HB0.out⟩
  have k3:¬ (30:Int)<(na:Int):=by omega
  have HN:=Lib.hid (show nt<=8/\ni<=10/\na<=30 by omega)
  have j1:(nt:Int)<=8:=by omega
  clear h1 h2 h3 bi bt ba
  go_enter Tryz.func11,Tryz.ntmps11
  go_wp2_with fail
  generalize w.alloc (.cells #[.slice pi ni ci,.slice pt nt ct,.bool al,.slice pa na ca] 37)=w1 at HB0 HBX ⊢
  generalize hgb:w.heap.size=gb at HBX ⊢
  have HGB:=Lib.hid hgb
  clear hgb
  go_loopg [3] nt (fun gg v3 wx=>∃ j,j<=nt/\gg=nt - j/\v3 = .int .i64 (j:Nat)/\Hid (Below w1.heap.size w1 wx)/\Hid (∀ i,i<j->thrSmall w pt i))
  case atStart=>exact ⟨0,by omega,by omega,rfl,Lib.hid (Below.refl _ _),Lib.hid fun i h=>by omega⟩
  case round =>
    obtain ⟨j,hj,rfl,rfl,HBj,HF⟩:=hrel
    have HLW:=Lib.hid (HB0.out.trans (HBj.out.mono HB0.out.size))
    have hbx:=HBX.out.below HBj.out HBX.out.lt
    have c1:wr.cell? ⟨gb,1,none⟩=some (.slice pt nt ct):=hbx.cell 1
    have lb:=hbx.lt
    clear hbx
    by_cases hlt:j<nt
    · obtain ⟨g,o,p,n,c,rfl,hc0,hn,hr⟩:=HG.out j hlt
      have hc:wr.cell? ⟨g,o+j,none⟩=some (.slice p n c):=cell_below (U:=any_) HLW.out g trivial _ _ hc0
      have HC0:=Lib.hid hc0
      have HR:=Lib.hid hr
      have lg:=World.block_lt_of_cell? _ _ hc
      have m1:(j:Int)<(nt:Int):=by omega
      have m2:(0:Int)<=(j:Int):=by omega
      have m3:(n:Int)<=9223372036854775807:=by omega
      have HJ:=Lib.hid hlt
      clear hc0 hr hn hlt hj
      by_cases h60:60<n
      · have n1:(60:Int)<(n:Int):=by omega
        clear h60
        go_wp2_with fail
        go_ret
        exact ⟨true,rfl,by simp,HLW.out⟩
      have n1:¬ (60:Int)<(n:Int):=by omega
      have H60:=Lib.hid (show n<=60 by omega)
      have HRW:=Lib.hid (HR.out (by omega))
      have m4:(n:Int)<=60:=by omega
      clear h60 m3
      go_wp2_with fail
      generalize wr=w2 at HBj hc ⊢
      have HCC:=Lib.hid hc
      clear hc c1 lb lg
      go_loopg [5] n (fun gg v5 wx=>∃ k,k<=n/\gg=n - k/\v5 = .int .i64 (k:Nat)/\Hid (Below w1.heap.size w1 wx)/\Hid (∀ i g o,i<k->p=some ⟨g,o,none⟩->(∀ pa na ca,w.cell? ⟨g,o+i * 6+4,none⟩=some (.slice pa na ca)->na<=30)/\∀ pb nb cb,w.cell? ⟨g,o+i * 6+5,none⟩=some (.slice pb nb cb)->nb<=30))
      case atStart=>exact ⟨0,by omega,by omega,rfl,HBj,Lib.hid fun i g o h=>by omega⟩
      case round =>
        obtain ⟨k,hk,rfl,rfl,HBk,HG2⟩:=hrel
        have HLK:=Lib.hid (HB0.out.trans (HBk.out.mono HB0.out.size))
        have q1:(k:Int)<=1000000:=by omega
        have q0:(0:Int)<=(k:Int):=by omega
        by_cases hkl:k<n
        · obtain ⟨g5,o5,pa',na',ca',pb',nb',cb',rfl,e4,e5,l4,l5⟩:=HRW.out k hkl
          have d4:wr.cell? ⟨g5,o5+k * 6+4,none⟩=some (.slice pa' na' ca'):=cell_below (U:=any_) HLK.out g5 trivial _ _ e4
          have d5:wr.cell? ⟨g5,o5+k * 6+5,none⟩=some (.slice pb' nb' cb'):=cell_below (U:=any_) HLK.out g5 trivial _ _ e5
          have HE4:=Lib.hid e4
          have HE5:=Lib.hid e5
          have lg:=World.block_lt_of_cell? _ _ d4
          have p1:(k:Int)<(n:Int):=by omega
          have HK:=Lib.hid hkl
          clear e4 e5 hkl hk
          by_cases ha:30<na'
          · have r1:(30:Int)<(na':Int):=by omega
            clear ha
            go_wp2_with fail
            go_ret
            exact ⟨true,rfl,by simp,HLK.out⟩
          have r1:¬ (30:Int)<(na':Int):=by omega
          by_cases hb:30<nb'
          · have r2:(30:Int)<(nb':Int):=by omega
            clear ha hb
            go_wp2_with fail
            go_ret
            exact ⟨true,rfl,by simp,HLK.out⟩
          have r2:¬ (30:Int)<(nb':Int):=by omega
          have HSL:=Lib.hid (show na' <= 30/\nb' <= 30 from ⟨by omega,by omega⟩)
          clear ha hb l4 l5
          go_wp2_with fail
          go_roundg (n - (k+1))
          case measure=>have:=HK.out;omega
          case rel=>exact ⟨k+1,HK.out,rfl,by go_num,HBk,Lib.hid fun i g o hi hp=>by
            by_cases e:i<k
            · exact HG2.out i g o e hp
            · obtain rfl:i=k:=by omega
              injection hp with hp
              injection hp with hp1 hp2
              subst hp1 hp2
              exact ⟨fun pa na ca h=>by rw [HE4.out] at h;injection h with h;injection h with _ h _;rw [<- h];exact HSL.out.1,fun pb nb cb h=>by rw [HE5.out] at h;injection h with h;injection h with _ h _;rw [<- h];exact HSL.out.2⟩⟩
        · obtain rfl:k=n:=by omega
          have p1:¬ ((k:Int)<(k:Int)):=by omega
          clear hkl hk
          go_wp2_with fail
          go_roundg (nt - (j+1))
          case measure=>have:=HJ.out;omega
          case rel=>exact ⟨j+1,HJ.out,rfl,by go_num,HBk,Lib.hid fun i hi=>by
            by_cases e:i<j
            · exact HF.out i e
            · obtain rfl:i=j:=by omega
              intro g' o' p' n' c' hp hcell
              injection hp with hp
              injection hp with hp1 hp2
              subst hp1 hp2
              rw [HC0.out] at hcell
              injection hcell with hcell
              injection hcell with h1 h2 _
              subst h1 h2
              exact ⟨H60.out,fun i g o hi hp=>HG2.out i g o hi hp⟩⟩
    · obtain rfl:j=nt:=by omega
      have m1:¬ ((j:Int)<(j:Int)):=by omega
      clear hlt hj
      go_wp2_with fail
      go_ret
      exact ⟨false,rfl,fun _=>⟨HN.out.2.1,HN.out.1,HN.out.2.2,HF.out⟩,HLW.out⟩
structure ArgV (w:World) (pi:Option Addr) (ni ci:Nat) (pt:Option Addr) (nt ct:Nat) (al:Bool) (pa:Option Addr) (na ca:Nat):Prop where
  bi:ni<=9223372036854775807
  bt:nt<=9223372036854775807
  ba:na<=9223372036854775807
  raw:GrV w pt nt
  read:GSmall w ni pt nt na->∃ t:Rt,t.all=al/\RtV w t (.slice pi ni ci) (.slice pt nt ct) (.slice pa na ca)/\t.meek/\(∀ a ∈ t.ask,a.bd)/\(∀ x ∈ t.init,x.1<256/\x.2<18446744073709551616)/\∀ l ∈ t.threads,∀ x ∈ l,x.bd
end Go.Proofs.YtbkdappgmcebaaaGreatDoor.Prog
namespace Go.Proofs.YtbkdappgmcebaaaGreatDoor.Prog
open Go.RowKit Go.Proofs.YtbkdappgmcebaaaGreatDoor.Mem Go.Proofs.YtbkdappgmcebaaaGreatDoor.Expr Go.Lib
theorem GrV.below {w W:World} {p:Option Addr} {n:Nat} (h:GrV w p n) (hb:Below w.heap.size w W):GrV W p n:=fun i hi=>by
  obtain ⟨g,o,q,m,c,h1,h2,h3,h4⟩:=h i hi
  refine ⟨g,o,q,m,c,h1,cell_below (U:=any_) hb g trivial _ _ h2,h3,fun h60 k hk=>?_⟩
  obtain ⟨g',o',pa,na,ca,pb,nb,cb,k1,k2,k3,k4,k5⟩:=h4 h60 k hk
  exact ⟨g',o',pa,na,ca,pb,nb,cb,k1,cell_below (U:=any_) hb g' trivial _ _ k2,cell_below (U:=any_) hb g' trivial _ _ k3,k4,k5⟩
theorem GSmall.back {w W:World} {ni:Nat} {pt:Option Addr} {nt na:Nat} (h:GSmall W ni pt nt na) (hb:Below w.heap.size w W):GSmall w ni pt nt na :=
  ⟨h.init,h.threads,h.ask,fun i hi g o p n c hp hc=>by
    have h1:=h.each i hi g o p n c hp (cell_below (U:=any_) hb g trivial _ _ hc)
    exact ⟨h1.1,fun k g' o' hk hp'=>⟨fun pa na ca h=>(h1.2 k g' o' hk hp').1 pa na ca (cell_below (U:=any_) hb g' trivial _ _ h),fun pb nb cb h=>(h1.2 k g' o' hk hp').2 pb nb cb (cell_below (U:=any_) hb g' trivial _ _ h)⟩⟩⟩
end Go.Proofs.YtbkdappgmcebaaaGreatDoor.Prog
end
section
namespace Go.Proofs.YtbkdappgmcebaaaGreatDoor.Prog
open Go.RowKit Go.ChangeShapes Go.WideShapes Go.ChangeAt Go.Proofs.YtbkdappgmcebaaaGreatDoor.Card Go.Proofs.YtbkdappgmcebaaaGreatDoor.Mem Go.Proofs.YtbkdappgmcebaaaGreatDoor.Expr Go.Deep
noncomputable def fieldsAt (t:TypeId):Array Field:=match Tryz.prog.underlying t with
  | some (.struct fs)=>fs
  | _=>#[]
theorem mark_under:Tryz.prog.underlying 95=some (.struct (fieldsAt 95)):=by
  unfold fieldsAt;rw [Tryz.underlying95]
theorem init_under:Tryz.prog.underlying 70=some (.struct (fieldsAt 70)):=by
  unfold fieldsAt;rw [Tryz.underlying70]
theorem test_under:Tryz.prog.underlying 37=some (.struct (fieldsAt 37)):=by
  unfold fieldsAt;rw [Tryz.underlying37]
theorem mark_f0:((fieldsAt 95)[0]?).map (fun f=>(Tryz.prog.underlying f.type,f.offset,Tryz.prog.cellsOf f.type))=some (some (.int .u8),0,1):=by kernel_rfl
theorem mark_f1:((fieldsAt 95)[1]?).map (fun f=>(Tryz.prog.underlying f.type,f.offset,Tryz.prog.cellsOf f.type))=some (some (.int .u8),1,1):=by kernel_rfl
theorem mark_f2:((fieldsAt 95)[2]?).map (fun f=>(Tryz.prog.underlying f.type,f.offset,Tryz.prog.cellsOf f.type))=some (some (.int .u8),2,1):=by kernel_rfl
theorem mark_f3:((fieldsAt 95)[3]?).map (fun f=>(Tryz.prog.underlying f.type,f.offset,Tryz.prog.cellsOf f.type))=some (some (.int .u8),3,1):=by kernel_rfl
theorem mark_f4:((fieldsAt 95)[4]?).map (fun f=>(f.type,f.offset,Tryz.prog.cellsOf f.type))=some (35,4,1):=by kernel_rfl
theorem mark_f5:((fieldsAt 95)[5]?).map (fun f=>(f.type,f.offset,Tryz.prog.cellsOf f.type))=some (35,5,1):=by kernel_rfl
theorem mark_cells:Tryz.prog.cellsOf 95=6:=by kernel_rfl
theorem init_f0:((fieldsAt 70)[0]?).map (fun f=>(Tryz.prog.underlying f.type,f.offset,Tryz.prog.cellsOf f.type))=some (some (.int .u8),0,1):=by kernel_rfl
theorem init_f1:((fieldsAt 70)[1]?).map (fun f=>(Tryz.prog.underlying f.type,f.offset,Tryz.prog.cellsOf f.type))=some (some (.int .u64),1,1):=by kernel_rfl
theorem init_cells:Tryz.prog.cellsOf 70=2:=by kernel_rfl
theorem test_f0:((fieldsAt 37)[0]?).map (fun f=>(f.type,f.offset,Tryz.prog.cellsOf f.type))=some (33,0,1):=by kernel_rfl
theorem test_f1:((fieldsAt 37)[1]?).map (fun f=>(f.type,f.offset,Tryz.prog.cellsOf f.type))=some (34,1,1):=by kernel_rfl
theorem test_f2:((fieldsAt 37)[2]?).map (fun f=>(Tryz.prog.underlying f.type,f.offset,Tryz.prog.cellsOf f.type))=some (some .bool,2,1):=by kernel_rfl
theorem test_f3:((fieldsAt 37)[3]?).map (fun f=>(f.type,f.offset,Tryz.prog.cellsOf f.type))=some (35,3,1):=by kernel_rfl
theorem test_cells:Tryz.prog.cellsOf 37=4:=by kernel_rfl
theorem marks_cells:Tryz.prog.cellsOf 77=1:=by kernel_rfl
section
variable {H : Type} {enc : TypeId × Value → H} {w : World} {base : Nat} {sp : Nat → Bool} {held : Bool}
theorem field_at {n:Nat} {fs:Array Field} {xs:List (DataW H × List MemPlace)} {cs:List Value} {j o:Nat} {t:TypeId}
    (hi:(fs[j]?).map (fun f=>(f.type,f.offset,Tryz.prog.cellsOf f.type))=some (t,o,1)) (hx:xs.length=fs.size)
    (h:∀ (i:Nat) (f:Field),fs[i]? = some f->DataW.trod enc Tryz.prog w base sp held n f.type ((cs.drop f.offset).take (Tryz.prog.cellsOf f.type))=xs[i]?):∃ x,DataW.trod enc Tryz.prog w base sp held n t ((cs.drop o).take 1)=some x:=by
  obtain ⟨f,hf,he⟩:=Option.map_eq_some_iff.1 hi
  simp only [Prod.mk.injEq] at he
  obtain ⟨rfl,rfl,hc⟩:=he
  have hj:j<xs.length:=by rw [hx];exact (Array.getElem?_eq_some_iff.1 hf).1
  have h1:=h j f hf
  rw [List.getElem?_eq_getElem hj,hc] at h1
  exact ⟨_,h1⟩
theorem one_cell {cs:List Value} {o:Nat} {v:Value} (h:(cs.drop o).take 1=[v]):cs[o]? = some v:=by
  have:=congrArg (·[0]?) h
  simpa [List.getElem?_take,List.getElem?_drop] using this
set_option maxRecDepth 100000 in
/-- A row of items wherever it stands. -/
theorem items_open {n:Nat} {cs:List Value} {x:DataW H × List MemPlace} (h:DataW.trod enc Tryz.prog w base sp held n 35 cs=some x) :
    ∃ q len cap,cs=[.slice q len cap]/\len<=maxLen/\(len<=1000000->∃ l:List It,l.length=len/\(∀ a ∈ l,a.bd)/\Row w (.slice q len cap) l):=by
  rcases open_slice Tryz.underlying35 h with ⟨hcs,_⟩ | ⟨a,len,cap,m,n',D,Pl,hcs,_,hl,hm,hmm,_,hi⟩
  · exact ⟨none,0,0,hcs,Nat.zero_le _,fun _=>⟨[],rfl,(fun a ha=>by cases ha),.inl ⟨rfl,_,_,rfl⟩⟩⟩
  · refine ⟨some a,len,cap,hcs,by omega,fun hlen=>?_⟩
    have hml:len<=m:=by rw [hmm];split <;> omega
    cases len with
    | zero=>exact ⟨[],rfl,(fun a ha=>by cases ha),.inl ⟨rfl,_,_,rfl⟩⟩
    | succ k =>
      rw [item_cells] at hi
      obtain ⟨b,off,spot⟩:=a
      have hspot:spot=none:=by
        obtain ⟨cs,hc,ht⟩:=hi 0 (by omega)
        obtain ⟨_,hcl,hcc⟩:=World.cells?_some hc
        have h0:=hcc 0 (by omega)
        rw [List.getElem?_eq_getElem (by omega)] at h0
        have:=World.cell?_spot h0
        simpa [Addr.add] using this
      subst hspot
      have each:∀ i,i<k+1->∃ a:It,a.bd/\ItemAt w b (off+i * 6) a:=fun i hik=>by
        obtain ⟨cs,hc,ht⟩:=hi i (by omega)
        obtain ⟨_,hcl,hcc⟩:=World.cells?_some hc
        refine item_open ht fun j hj=>?_
        have:=hcc j hj
        rwa [add_plain,add_plain] at this
      obtain ⟨l,hll,hq⟩:=list_of each
      refine ⟨l,hll,fun a ha=>?_,.inr ⟨b,off,cap,by rw [hll],by rw [hll];exact hlen,fun i a ha=>(hq i a ha).2⟩⟩
      obtain ⟨i,hi'⟩:=List.getElem?_of_mem ha
      exact (hq i a hi').1
def MarkO (w:World) (g o:Nat):Prop:=∃ (kd rg md lc:Nat) (pa:Option Addr) (na ca:Nat) (pb:Option Addr) (nb cb:Nat),kd<256/\rg<256/\md<256/\lc<256/\w.cell? ⟨g,o,none⟩=some (.int .u8 kd)/\w.cell? ⟨g,o+1,none⟩=some (.int .u8 rg)/\w.cell? ⟨g,o+2,none⟩=some (.int .u8 md) /\
  w.cell? ⟨g,o+3,none⟩=some (.int .u8 lc)/\w.cell? ⟨g,o+4,none⟩=some (.slice pa na ca)/\w.cell? ⟨g,o+5,none⟩=some (.slice pb nb cb)/\na<=maxLen/\nb<=maxLen /\
  (na<=1000000->∃ l:List It,l.length=na/\(∀ a ∈ l,a.bd)/\Row w (.slice pa na ca) l)/\(nb<=1000000->∃ l:List It,l.length=nb/\(∀ a ∈ l,a.bd)/\Row w (.slice pb nb cb) l)
theorem mark_open {n:Nat} {cs:List Value} {x:DataW H × List MemPlace} (h:DataW.trod enc Tryz.prog w base sp held n 95 cs=some x) {g o:Nat} (hc:∀ j,j<6->w.cell? ⟨g,o+j,none⟩=cs[j]?):MarkO w g o:=by
  obtain ⟨xs,n',_,_,_,hxl,hf⟩:=DataW.trod_struct mark_under h
  obtain ⟨z0,h0,w0⟩:=field_int mark_f0 hxl hf
  obtain ⟨z1,h1,w1⟩:=field_int mark_f1 hxl hf
  obtain ⟨z2,h2,w2⟩:=field_int mark_f2 hxl hf
  obtain ⟨z3,h3,w3⟩:=field_int mark_f3 hxl hf
  obtain ⟨x4,h4⟩:=field_at mark_f4 hxl hf
  obtain ⟨x5,h5⟩:=field_at mark_f5 hxl hf
  obtain ⟨n0,rfl,b0⟩:=nat_of_u8 w0
  obtain ⟨n1,rfl,b1⟩:=nat_of_u8 w1
  obtain ⟨n2,rfl,b2⟩:=nat_of_u8 w2
  obtain ⟨n3,rfl,b3⟩:=nat_of_u8 w3
  obtain ⟨pa,na,ca,e4,l4,r4⟩:=items_open h4
  obtain ⟨pb,nb,cb,e5,l5,r5⟩:=items_open h5
  exact ⟨n0,n1,n2,n3,pa,na,ca,pb,nb,cb,b0,b1,b2,b3,(hc 0 (by omega)).trans h0,(hc 1 (by omega)).trans h1,(hc 2 (by omega)).trans h2,(hc 3 (by omega)).trans h3,(hc 4 (by omega)).trans (one_cell e4),(hc 5 (by omega)).trans (one_cell e5),l4,l5,r4,r5⟩
set_option maxRecDepth 100000 in
/-- A row of marks wherever it stands. -/
theorem marks_open {n:Nat} {cs:List Value} {x:DataW H × List MemPlace} (h:DataW.trod enc Tryz.prog w base sp held n 77 cs=some x) :
    ∃ q len cap,cs=[.slice q len cap]/\len<=maxLen/\∀ i,i<len->∃ g o,q=some ⟨g,o,none⟩/\MarkO w g (o+i * 6):=by
  rcases open_slice Tryz.underlying77 h with ⟨hcs,_⟩ | ⟨a,len,cap,m,n',D,Pl,hcs,_,hl,hm,hmm,_,hi⟩
  · exact ⟨none,0,0,hcs,Nat.zero_le _,fun i hi=>by omega⟩
  · refine ⟨some a,len,cap,hcs,by omega,fun i hik=>?_⟩
    have hml:len<=m:=by rw [hmm];split <;> omega
    rw [mark_cells] at hi
    obtain ⟨b,off,spot⟩:=a
    have hspot:spot=none:=by
      obtain ⟨cs,hc,ht⟩:=hi 0 (by omega)
      obtain ⟨_,hcl,hcc⟩:=World.cells?_some hc
      have h0:=hcc 0 (by omega)
      rw [List.getElem?_eq_getElem (by omega)] at h0
      have:=World.cell?_spot h0
      simpa [Addr.add] using this
    subst hspot
    refine ⟨b,off,rfl,?_⟩
    obtain ⟨cs,hc,ht⟩:=hi i (by omega)
    obtain ⟨_,hcl,hcc⟩:=World.cells?_some hc
    refine mark_open ht fun j hj=>?_
    have:=hcc j hj
    rwa [add_plain,add_plain] at this
set_option maxRecDepth 100000 in
/-- Threads wherever they stand. -/
theorem threads_open {n:Nat} {cs:List Value} {x:DataW H × List MemPlace} (h:DataW.trod enc Tryz.prog w base sp held n 34 cs=some x) :
    ∃ q len cap,cs=[.slice q len cap]/\len<=maxLen/\∀ i,i<len->∃ g o p k c,q=some ⟨g,o,none⟩/\w.cell? ⟨g,o+i,none⟩=some (.slice p k c)/\k<=maxLen/\∀ j,j<k->∃ g' o',p=some ⟨g',o',none⟩/\MarkO w g' (o' + j * 6):=by
  rcases open_slice1 Tryz.underlying34 marks_cells h with ⟨hcs,_⟩ | ⟨a,len,cap,m,n',V,D,Pl,hcs,_,hl,hm,hmm,_,hi⟩
  · exact ⟨none,0,0,hcs,Nat.zero_le _,fun i hi=>by omega⟩
  · refine ⟨some a,len,cap,hcs,by omega,fun i hik=>?_⟩
    have hml:len<=m:=by rw [hmm];split <;> omega
    obtain ⟨b,off,spot⟩:=a
    have hspot:spot=none:=by
      have:=World.cell?_spot (hi 0 (by omega)).1
      simpa [Addr.add] using this
    subst hspot
    obtain ⟨hc,ht⟩:=hi i (by omega)
    obtain ⟨p,k,c,e,hk,hj⟩:=marks_open ht
    injection e with e _
    rw [add_plain,e] at hc
    exact ⟨b,off,p,k,c,rfl,hc,hk,hj⟩
set_option maxRecDepth 100000 in
/-- Starting values wherever they stand. -/
theorem inits_open {n:Nat} {cs:List Value} {x:DataW H × List MemPlace} (h:DataW.trod enc Tryz.prog w base sp held n 33 cs=some x) :
    ∃ q len cap,cs=[.slice q len cap]/\len<=maxLen/\(len<=1000000->∃ l:List (Nat × Nat),l.length=len/\(∀ a ∈ l,a.1<256/\a.2<18446744073709551616)/\Inits w (.slice q len cap) l):=by
  rcases open_slice Tryz.underlying33 h with ⟨hcs,_⟩ | ⟨a,len,cap,m,n',D,Pl,hcs,_,hl,hm,hmm,_,hi⟩
  · exact ⟨none,0,0,hcs,Nat.zero_le _,fun _=>⟨[],rfl,(fun a ha=>by cases ha),.inl ⟨rfl,_,_,rfl⟩⟩⟩
  · refine ⟨some a,len,cap,hcs,by omega,fun hlen=>?_⟩
    have hml:len<=m:=by rw [hmm];split <;> omega
    cases len with
    | zero=>exact ⟨[],rfl,(fun a ha=>by cases ha),.inl ⟨rfl,_,_,rfl⟩⟩
    | succ k =>
      rw [init_cells] at hi
      obtain ⟨b,off,spot⟩:=a
      have hspot:spot=none:=by
        obtain ⟨cs,hc,ht⟩:=hi 0 (by omega)
        obtain ⟨_,hcl,hcc⟩:=World.cells?_some hc
        have h0:=hcc 0 (by omega)
        rw [List.getElem?_eq_getElem (by omega)] at h0
        have:=World.cell?_spot h0
        simpa [Addr.add] using this
      subst hspot
      have each:∀ i,i<k+1->∃ a:Nat × Nat,(a.1<256/\a.2<18446744073709551616)/\w.cell? ⟨b,off+i * 2,none⟩=some (.int .u8 a.1)/\w.cell? ⟨b,off+i * 2+1,none⟩=some (.int .u64 a.2):=fun i hik=>by
        obtain ⟨cs,hc,ht⟩:=hi i (by omega)
        obtain ⟨_,hcl,hcc⟩:=World.cells?_some hc
        obtain ⟨xs,n',_,_,_,hxl,hf⟩:=DataW.trod_struct init_under ht
        obtain ⟨z0,h0,w0⟩:=field_int init_f0 hxl hf
        obtain ⟨z1,h1,w1⟩:=field_int init_f1 hxl hf
        obtain ⟨n0,rfl,b0⟩:=nat_of_u8 w0
        obtain ⟨n1,rfl,b1⟩:=nat_of_u64 w1
        have c0:=hcc 0 (by omega)
        have c1:=hcc 1 (by omega)
        rw [add_plain,add_plain] at c0 c1
        exact ⟨(n0,n1),⟨b0,b1⟩,c0.trans h0,c1.trans h1⟩
      obtain ⟨l,hll,hq⟩:=list_of each
      refine ⟨l,hll,fun a ha=>?_,.inr ⟨b,off,cap,by rw [hll],trivial,by rw [hll];exact hlen,fun j u hu=>?_⟩⟩
      · obtain ⟨i,hi'⟩:=List.getElem?_of_mem ha
        exact (hq i a hi').1
      · have hj:j<(l.flatMap initCell).length:=(List.getElem?_eq_some_iff.1 hu).1
        have hfl:(l.flatMap initCell).length=2 * l.length:=by
          clear hu hj hq hll
          induction l with
          | nil=>rfl
          | cons a l ih=>rw [List.flatMap_cons,List.length_append,ih];simp only [initCell,List.length_cons,List.length_nil];omega
        have hi2:j / 2<l.length:=by omega
        have hx:l[j / 2]? = some l[j / 2]:=List.getElem?_eq_getElem hi2
        have h1:=initCells_at l (j / 2) _ hx
        have h2:=(hq (j / 2) _ hx).2
        by_cases hp:j % 2=0
        · have e:j / 2 * 2=j:=by omega
          rw [e] at h1 h2
          rw [h1.1] at hu
          rw [h2.1,<- Option.some.inj hu]
        · have e:j / 2 * 2+1=j:=by omega
          rw [show off+j / 2 * 2+1=off+(j / 2 * 2+1) by omega,e] at h2
          rw [e] at h1
          rw [h1.2] at hu
          rw [h2.2,<- Option.some.inj hu]
theorem marks_list {p:Option Addr} {n:Nat} {c:Nat} (hm:∀ j,j<n->∃ g' o',p=some ⟨g',o',none⟩/\MarkO w g' (o' + j * 6)) (hs:rowSmall w p n):∃ l:List Mark,l.length=n/\(∀ x ∈ l,x.bd)/\lean l/\MRow w (.slice p n c) l:=by
  have each:∀ j,j<n->∃ x:Mark,(x.bd/\slim x)/\∃ g o av bv,p=some ⟨g,o,none⟩/\MarkAt w g (o+j * 6) x av bv:=fun j hj=>by
    obtain ⟨g,o,rfl,kd,rg,md,lc,pa,na,ca,pb,nb,cb,b0,b1,b2,b3,c0,c1,c2,c3,c4,c5,_,_,ra,rb⟩:=hm j hj
    have h1:=hs.2 j g o hj rfl
    have ha:=h1.1 pa na ca c4
    have hb:=h1.2 pb nb cb c5
    obtain ⟨la,hla,hba,hra⟩:=ra (by omega)
    obtain ⟨lb,hlb,hbb,hrb⟩:=rb (by omega)
    exact ⟨⟨kd,rg,md,lc,la,lb⟩,⟨⟨b0,b1,b2,b3,hba,hbb⟩,⟨by show la.length<=30;omega,by show lb.length<=30;omega⟩⟩,g,o,_,_,rfl,c0,c1,c2,c3,c4,c5,hra,hrb⟩
  obtain ⟨l,hll,hq⟩:=list_of each
  have h60:=hs.1
  refine ⟨l,hll,fun x hx=>?_,⟨by omega,fun i x hx=>(hq i x hx).1.2⟩,?_⟩
  · obtain ⟨i,hi⟩:=List.getElem?_of_mem hx
    exact (hq i x hi).1.1
  · cases n with
    | zero=>exact .inl ⟨List.length_eq_zero_iff.1 hll,p,c,rfl⟩
    | succ k =>
      obtain ⟨g,o,hp,_⟩:=hm 0 (by omega)
      refine .inr ⟨g,o,c,by rw [hp,hll],by omega,fun i x hx=>?_⟩
      obtain ⟨g',o',av,bv,hp',hmk⟩:=(hq i x hx).2
      rw [hp] at hp'
      injection hp' with hp'
      injection hp' with h1 h2
      subst h1 h2
      exact ⟨av,bv,hmk⟩
set_option maxRecDepth 100000 in
theorem test_open {v:Value} {d:DataW H} {p:List MemPlace} (hv:Value.okWide Tryz.prog w .any base 37 v) (h:DataW.Trod enc Tryz.prog w 0 sp held 37 v d p) :
    ∃ pi ni ci pt nt ct al pa na ca,v = .agg #[.slice pi ni ci,.slice pt nt ct,.bool al,.slice pa na ca]/\ArgV w pi ni ci pt nt ct al pa na ca:=by
  obtain ⟨cs,rfl,hsz⟩:=okWide_struct test_under hv
  rw [test_cells] at hsz
  obtain ⟨n,hn⟩:=h
  obtain ⟨xs,n',_,_,_,hxl,hf⟩:=DataW.trod_struct test_under hn
  obtain ⟨x0,h0⟩:=field_at test_f0 hxl hf
  obtain ⟨x1,h1⟩:=field_at test_f1 hxl hf
  obtain ⟨x3,h3⟩:=field_at test_f3 hxl hf
  have h2:∃ al:Bool,cs.toList[2]? = some (.bool al):=by
    obtain ⟨f,hf',he⟩:=Option.map_eq_some_iff.1 test_f2
    simp only [Prod.mk.injEq] at he
    obtain ⟨hu,ho,hc⟩:=he
    have hj:2<xs.length:=by rw [hxl];exact (Array.getElem?_eq_some_iff.1 hf').1
    have h1:=hf 2 f hf'
    rw [List.getElem?_eq_getElem hj] at h1
    obtain ⟨b,hb,_⟩:=DataW.trod_bool hu h1
    rw [hc,ho] at hb
    exact ⟨b,one_cell hb⟩
  obtain ⟨al,e2⟩:=h2
  obtain ⟨pi,ni,ci,e0,l0,r0⟩:=inits_open h0
  obtain ⟨pt,nt,ct,e1,l1,r1⟩:=threads_open h1
  obtain ⟨pa,na,ca,e3,l3,r3⟩:=items_open h3
  have e0:=one_cell e0
  have e1:=one_cell e1
  have e3:=one_cell e3
  have hcs:cs=#[.slice pi ni ci,.slice pt nt ct,.bool al,.slice pa na ca]:=by
    apply Array.ext_getElem? fun i=>?_
    simp only [Value.cells] at e0 e1 e3
    by_cases hi:i<4
    · obtain rfl | rfl | rfl | rfl:i=0 \/ i=1 \/ i=2 \/ i=3:=by omega
      · simpa using e0
      · simpa using e1
      · simpa using e2
      · simpa using e3
    · rw [Array.getElem?_eq_none (by omega),Array.getElem?_eq_none (by simp;omega)]
  unfold maxLen at l0 l1 l3 r1
  refine ⟨pi,ni,ci,pt,nt,ct,al,pa,na,ca,by rw [hcs],l0,l1,l3,fun i hi=>?_,fun hs=>?_⟩
  · obtain ⟨g,o,p,k,c,hp,hc,hk,hm⟩:=r1 i hi
    refine ⟨g,o,p,k,c,hp,hc,hk,fun _ j hj=>?_⟩
    obtain ⟨g',o',hp',kd,rg,md,lc,pa,na,ca,pb,nb,cb,b0,b1,b2,b3,c0,c1,c2,c3,c4,c5,la,lb,_⟩:=hm j hj
    unfold maxLen at la lb
    exact ⟨g',o',pa,na,ca,pb,nb,cb,hp',c4,c5,la,lb⟩
  · obtain ⟨li,hli,hbi,hri⟩:=r0 (by have:=hs.init;omega)
    obtain ⟨la,hla,hba,hra⟩:=r3 (by have:=hs.ask;omega)
    have each:∀ i,i<nt->∃ l:List Mark,((∀ x ∈ l,x.bd)/\lean l)/\∃ g o u,pt=some ⟨g,o,none⟩/\w.cell? ⟨g,o+i,none⟩=some u/\MRow w u l:=fun i hi=>by
      obtain ⟨g,o,p,k,c,hp,hc,_,hm⟩:=r1 i hi
      obtain ⟨l,_,hb,hl,hr⟩:=marks_list (c:=c) hm (hs.each i hi g o p k c hp hc)
      exact ⟨l,⟨hb,hl⟩,g,o,_,hp,hc,hr⟩
    obtain ⟨lt,hlt,hq⟩:=list_of each
    have hMR:MRows w (.slice pt nt ct) lt:=by
      have hv:∃ vs:List Value,vs.length=nt/\∀ i u,vs[i]? = some u->∃ g o,pt=some ⟨g,o,none⟩/\w.cell? ⟨g,o+i,none⟩=some u:=by
        refine list_of (Q:=fun i u=>∃ g o,pt=some ⟨g,o,none⟩/\w.cell? ⟨g,o+i,none⟩=some u) fun i hi=>?_
        obtain ⟨g,o,p,k,c,hp,hc,_⟩:=r1 i hi
        exact ⟨_,g,o,hp,hc⟩
      obtain ⟨vs,hvl,hvs⟩:=hv
      refine ⟨vs,?_,by omega,fun i l u hl hu=>?_⟩
      · rw [hlt]
        cases nt with
        | zero=>exact .inl ⟨rfl,pt,ct,rfl⟩
        | succ k =>
          obtain ⟨g,o,p,_,c,hp,_⟩:=r1 0 (by omega)
          refine .inr ⟨g,o,ct,by rw [hp],trivial,by have:=hs.threads;omega,fun j u hu=>?_⟩
          obtain ⟨g',o',hp',hc⟩:=hvs j u hu
          rw [hp] at hp'
          injection hp' with hp'
          injection hp' with h1 h2
          subst h1 h2
          exact hc
      · obtain ⟨g,o,u',hp,hc,hm⟩:=(hq i l hl).2
        obtain ⟨g',o',hp',hc'⟩:=hvs i u hu
        rw [hp] at hp'
        injection hp' with hp'
        injection hp' with h1 h2
        subst h1 h2
        rw [hc] at hc'
        rw [<- Option.some.inj hc'];exact hm
    refine ⟨⟨li,lt,al,la⟩,rfl,⟨hri,hMR,hra⟩,⟨by show lt.length<=8;have:=hs.threads;omega,by show li.length<=10;have:=hs.init;omega,by show la.length<=30;have:=hs.ask;omega,fun i l hl=>(hq i l hl).1.2⟩,hba,hbi,fun l hl=>?_⟩
    obtain ⟨i,hi⟩:=List.getElem?_of_mem hl
    exact (hq i l hi).1.1
end
end Go.Proofs.YtbkdappgmcebaaaGreatDoor.Prog
end
