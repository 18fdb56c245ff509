/- Part 42 of the proof: what is used of the texts ThrG. -/
import Derived.Test.YtagebkachdmnbaaGreatDoorME0
section
namespace Go.Proofs.YtagebkachdmnbaaGreatDoor.Thr
open Go.RowKit Go.Shelf Go.Proofs.YtagebkachdmnbaaGreatDoor.Mem Go.Proofs.YtagebkachdmnbaaGreatDoor.Expr Go.Proofs.YtagebkachdmnbaaGreatDoor.Prog Go.Proofs.YtagebkachdmnbaaGreatDoor.Row Go.Proofs.YtagebkachdmnbaaGreatDoor.Unr Go.Lib
structure MostV (w:World) (r:Option Addr) (n d:Nat) (b:Int) (g5 g7:Nat) (L:List Nat) (k:Nat) (W:World):Prop where
  s3:Sits W w.heap.size 44 #[.slice r n d,.int .i64 b]
  s7:Sits W g7 151 #[.slice (some ⟨g5,0,none⟩) L.length L.length]
  s5:Sits W g5 3 (valI L k)
  low:Below w.heap.size w W
section
variable {w W W' : World} {r : Option Addr} {n d : Nat} {b : Int} {g5 g7 k : Nat} {L : List Nat}
theorem MostV.grown (h:MostV w r n d b g5 g7 L k W) (hb:Below W.heap.size W W'):MostV w r n d b g5 g7 L k W' :=
  ⟨h.s3.below hb h.s3.lt,h.s7.below hb h.s7.lt,h.s5.below hb h.s5.lt,h.low.trans (hb.mono h.low.size)⟩
theorem MostV.put (h:MostV w r n d b g5 g7 L k W) (h5:w.heap.size<g5) {v:Nat} (hv:L[k]? = some v):MostV w r n d b g5 g7 L (k+1) (W.setCell ⟨g5,k,none⟩ (.int .i64 (v:Nat))) :=
  ⟨h.s3.far (show w.heap.size≠g5 by omega) _,h.s7.far (h.s7.differ h.s5 (by decide)) _,by rw [<- valI_put L hv];exact h.s5.put _ _,h.low.setCell (show w.heap.size<=g5 by omega) _⟩
theorem MostV.keep (h:MostV w r n d b g5 g7 L k W) {v:Nat} (hv:L[k]? = some v) (h0:v=0):MostV w r n d b g5 g7 L (k+1) W:=by
  refine ⟨h.s3,h.s7,?_,h.low⟩
  have e:valI L (k+1)=valI L k:=by
    rw [<- valI_put L hv,h0]
    have hk:=(List.getElem?_eq_some_iff.1 hv).1
    apply Array.ext
    · simp [valI]
    · intro j h1 h2
      have h2':j<L.length:=by simpa [valI] using h2
      have e2:=valI_at L (i:=k) h2'
      rw [Array.getElem?_eq_getElem (by simpa [valI] using h2')] at e2
      by_cases e:k=j
      · subst e
        rw [if_neg (by omega)] at e2
        rw [Array.getElem_setIfInBounds_self]
        exact (Option.some.inj e2).symm
      · exact Array.getElem_setIfInBounds_ne _ e
  rw [e];exact h.s5
end
set_option maxHeartbeats 8000000 in
set_option maxRecDepth 100000 in
theorem most_any (cnt:Nat->Bool) (F:FuncId) (hen:Go.Proofs.YtagebkachdmnbaaGreatDoor.Expr.Enters F) (hF:∀ (k:Nat) (W:World),Calls Tryz.prog F #[.agg #[.int .u8 k,.int .u8 0,.int .i64 0,.int .u64 0,.int .u64 0]] W (Made (.returned (.bool (cnt k))) W))
    (code:List In) (hl:code.length<=32) (r:Option Addr) (d:Nat) (hd:code.length<=d) (b i:Int) (w:World) (hC:CodV w r code) :
    Calls Tryz.prog 49 #[thV r code.length d b,.int .i64 i,.func (.func F) #[] #[]] w (Made (.returned (.int .i64 (mostF cnt code i:Nat))) w):=by
  have HC:=Lib.hid hC
  have HFC:=Lib.hid hF
  have HE:=Lib.hid (fun W=>end_any r code.length d b i W)
  have HB0:Hid (Below w.heap.size w (w.alloc (.cells #[.slice r code.length d,.int .i64 b] 44))):=Lib.hid (one_low _ _)
  have HS0:Hid (Sits (w.alloc (.cells #[.slice r code.length d,.int .i64 b] 44)) w.heap.size 44 #[.slice r code.length d,.int .i64 b]):=Lib.hid (Sits.new _ _ _)
  have HMF:Hid (mostF cnt code i=match atI code i with | none=>0 | some _=>(foundF cnt (code.take (i.toNat+1))).getD i.toNat 0):=Lib.hid rfl
  generalize mostF cnt code i=res at HMF ⊢
  unfold Go.Proofs.YtagebkachdmnbaaGreatDoor.Expr.Enters at hen
  clear hC hF
  cases hend:endF code.length i with
  | true =>
    rw [hend] at HE
    have HN:Hid (res=0):=Lib.hid (by rw [HMF.out,end_not hend])
    clear hend HMF
    go_enter Tryz.func49,Tryz.ntmps49
    go_wp2_with fail
    refine (HE.out _).mono ?_
    rintro e W1 ⟨rfl,hb⟩
    have HB1:=Lib.hid (HB0.out.trans (hb.mono HB0.out.size))
    clear hb
    go_wp2_with fail
    go_ret
    rw [HN.out]
    exact ⟨rfl,HB1.out⟩
  | false =>
    rw [hend] at HE
    obtain ⟨k0,x0,hik,hx0,hat⟩:=end_at hend
    have HK0:Hid (k0<code.length):=Lib.hid (List.getElem?_eq_some_iff.1 hx0).1
    subst hik
    have HRS:Hid (res=(foundF cnt (code.take (k0+1))).getD k0 0):=Lib.hid (by rw [HMF.out,hat];rfl)
    clear hend hx0 hat HMF
    have HLC:Hid (code.length<=32/\code.length<=d):=Lib.hid ⟨hl,hd⟩
    have hmk:∀ W:World,(Instr.makeSlice 151 (.int .i64 ((k0:Int)+1)) (.int .i64 ((k0:Int)+1))).run Tryz.prog W = .ok (.slice (some ⟨W.heap.size,0,none⟩) (k0+1) (k0+1)) (W.alloc (.cells (zerosI (k0+1)) 3)):=fun W=>madeI W (k0+1) (by have:=HK0.out;have:=HLC.out;omega)
    have k1:(k0:Int)<32:=by have:=HK0.out;omega
    have k2:(0:Int)<=(k0:Int):=by omega
    have k3:(k0:Int)+1<=(d:Int):=by have:=HK0.out;omega
    clear hl hd
    go_enter Tryz.func49,Tryz.ntmps49
    go_wp2_with fail
    refine (HE.out _).mono ?_
    rintro e W1 ⟨rfl,hb⟩
    have HB1:=Lib.hid (HB0.out.trans (hb.mono HB0.out.size))
    have HS1:=Lib.hid (HS0.out.below hb HS0.out.lt)
    clear hb
    obtain ⟨gx,ox,hr⟩:∃ gx ox,r=some ⟨gx,ox,none⟩:=by
      obtain ⟨g,o,pa,pb,e,_⟩:=HC.out.at_ (k:=k0) (List.getElem?_eq_getElem HK0.out)
      exact ⟨g,o,e⟩
    subst hr
    have b0:W1.cell? ⟨w.heap.size,0,none⟩=some (.slice (some ⟨gx,ox,none⟩) code.length d):=HS1.out.cell 0
    have b1:W1.cell? ⟨w.heap.size,1,none⟩=some (.int .i64 b):=HS1.out.cell 1
    have lb:=HS1.out.lt
    generalize hL:foundF cnt (code.take (k0+1))=L at HRS
    have HLL:Hid (L.length=k0+1):=Lib.hid (by rw [<- hL,found_len,List.length_take];have:=HK0.out;omega)
    have HST:Hid (∀ (k:Nat) (x:In),k<k0+1->code[k]? = some x->L[k]? = some (stepM cnt (L.take k) x)):=Lib.hid (fun k x hk hx=>by
      rw [<- hL]
      exact found_at cnt (l:=code.take (k0+1)) (by rw [List.getElem?_take,if_pos hk];exact hx))
    have HLE:Hid (∀ v ∈ L,v<=32):=Lib.hid (fun v hv=>by
      rw [<- hL] at hv
      have:=found_le cnt _ v hv
      rw [List.length_take] at this
      have:=HLC.out;omega)
    have HM0:Hid (MostV w (some ⟨gx,ox,none⟩) code.length d b W1.heap.size (W1.heap.size+1) L 0 ((W1.alloc (.cells (zerosI (k0+1)) 3)).alloc (.cells #[.slice (some ⟨W1.heap.size,0,none⟩) (k0+1) (k0+1)] 151))):=Lib.hid
      ⟨(HS1.out.alloc _).alloc _,by rw [HLL.out];exact Sits.made (by simp) _ _,by rw [valI_zero,HLL.out];exact (Sits.new _ _ _).alloc _,(HB1.out.alloc HB1.out.size _).alloc (by have:=HB1.out.size;simp;omega) _⟩
    have hg5:w.heap.size<W1.heap.size:=HS1.out.lt
    clear hL
    go_wp2_with fail
    generalize (W1.alloc (.cells (zerosI (k0+1)) 3)).alloc (.cells #[.slice (some ⟨W1.heap.size,0,none⟩) (k0+1) (k0+1)] 151)=W2 at HM0 ⊢
    generalize W1.heap.size=g5 at HM0 hg5 ⊢
    go_loopg [23] (k0+1) (fun gg v23 wx=>∃ k,k<=k0+1/\gg=k0+1 - k/\v23 = .int .i64 (k:Nat)/\Hid (MostV w (some ⟨gx,ox,none⟩) code.length d b g5 (g5+1) L k wx))
    case atStart=>exact ⟨0,by omega,by omega,rfl,HM0⟩
    case round =>
      obtain ⟨k,hk,rfl,rfl,HM⟩:=hrel
      by_cases hlt:k<k0+1
      · obtain ⟨x,hx⟩:∃ x,code[k]? = some x:=⟨_,List.getElem?_eq_getElem (by have:=HK0.out;omega)⟩
        have HLV:=Lib.hid (HST.out k x hlt hx)
        obtain ⟨g',o',pa,pb,hr,hgx,_,_,hcx⟩:=(HC.out.below HM.out.low).at_ hx
        injection hr with hr;injection hr with hr1 hr2;subst hr1 hr2
        have x0:wr.cell? ⟨gx,ox+k * 8,none⟩=some (.int .u8 x.kind):=hcx 0 (by omega)
        have x1:wr.cell? ⟨gx,ox+k * 8+1,none⟩=some (.int .u8 x.reg):=hcx 1 (by omega)
        have x2:wr.cell? ⟨gx,ox+k * 8+2,none⟩=some (.int .u8 x.mode):=hcx 2 (by omega)
        have x3:wr.cell? ⟨gx,ox+k * 8+3,none⟩=some (.int .i64 x.loc):=hcx 3 (by omega)
        have x4:wr.cell? ⟨gx,ox+k * 8+4,none⟩=some (.pointer pa):=hcx 4 (by omega)
        have x5:wr.cell? ⟨gx,ox+k * 8+5,none⟩=some (.pointer pb):=hcx 5 (by omega)
        have x6:wr.cell? ⟨gx,ox+k * 8+6,none⟩=some (.int .i64 x.next):=hcx 6 (by omega)
        have x7:wr.cell? ⟨gx,ox+k * 8+7,none⟩=some (.int .i64 x.els):=hcx 7 (by omega)
        have i1:(k:Int)<(k0:Int)+1:=by omega
        have i2:(0:Int)<=(k:Int):=by omega
        have HLT:=Lib.hid hlt
        clear hcx hx hk hlt
        go_upto_region 7 with (fail)
        have HB2:Hid (Below wr.heap.size wr ((wr.alloc (.cells #[.int .i64 (k:Nat)] 3)).alloc (.cells (inC x pa pb) 82))):=Lib.hid (two_low _ _ _)
        have HM2:=Lib.hid (HM.out.grown HB2.out)
        have H8:Hid (Sits ((wr.alloc (.cells #[.int .i64 (k:Nat)] 3)).alloc (.cells (inC x pa pb) 82)) wr.heap.size 3 #[.int .i64 (k:Nat)]):=Lib.hid ((Sits.new _ _ _).alloc _)
        have H9:Hid (Sits ((wr.alloc (.cells #[.int .i64 (k:Nat)] 3)).alloc (.cells (inC x pa pb) 82)) (wr.heap.size+1) 82 (inC x pa pb)):=Lib.hid (Sits.made (by simp) _ _)
        change Code.wp _ _ _ _ ((wr.alloc (.cells #[.int .i64 (k:Nat)] 3)).alloc (.cells (inC x pa pb) 82))
        have hg8:g5<wr.heap.size:=HM.out.s5.lt
        generalize (wr.alloc (.cells #[.int .i64 (k:Nat)] 3)).alloc (.cells (inC x pa pb) 82)=W3 at HB2 HM2 H8 H9 ⊢
        generalize wr.heap.size+1=g9 at H9 ⊢
        generalize wr.heap.size=g8 at H8 hg8 ⊢
        clear x0 x1 x2 x3 x4 x5 x6 x7 HB2 HM
        have a7:W3.cell? ⟨g5+1,0,none⟩=some (.slice (some ⟨g5,0,none⟩) (k0+1) (k0+1)):=by rw [<- HLL.out];exact HM2.out.s7.cell 0
        have l7:=HM2.out.s7.lt
        have l5:=HM2.out.s5.lt
        have a8:W3.cell? ⟨g8,0,none⟩=some (.int .i64 (k:Nat)):=H8.out.cell 0
        have l8:=H8.out.lt
        have x0:W3.cell? ⟨g9,0,none⟩=some (.int .u8 x.kind):=H9.out.cell 0
        have x1:W3.cell? ⟨g9,1,none⟩=some (.int .u8 x.reg):=H9.out.cell 1
        have x2:W3.cell? ⟨g9,2,none⟩=some (.int .u8 x.mode):=H9.out.cell 2
        have x3:W3.cell? ⟨g9,3,none⟩=some (.int .i64 x.loc):=H9.out.cell 3
        have x4:W3.cell? ⟨g9,4,none⟩=some (.pointer pa):=H9.out.cell 4
        have x5:W3.cell? ⟨g9,5,none⟩=some (.pointer pb):=H9.out.cell 5
        have x6:W3.cell? ⟨g9,6,none⟩=some (.int .i64 x.next):=H9.out.cell 6
        have x7:W3.cell? ⟨g9,7,none⟩=some (.int .i64 x.els):=H9.out.cell 7
        have l9:=H9.out.lt
        have HLKL:Hid (k<L.length/\L.length<=1000):=Lib.hid ⟨by rw [HLL.out];exact HLT.out,by rw [HLL.out];have:=HK0.out;have:=HLC.out;omega⟩
        have HBH:Hid (∀ (W:World) (i:Int),MostV w (some ⟨gx,ox,none⟩) code.length d b g5 (g5+1) L k W->Sits W g8 3 #[.int .i64 (k:Nat)]->Calls Tryz.prog 107 #[.int .i64 i,.pointer (some ⟨g8,0,none⟩),.pointer (some ⟨g5+1,0,none⟩)] W fun e w'=>e = .returned (.int .i64 (behF (L.take k) i:Nat))/\W=w') :=
          Lib.hid (fun W i hm h8=>behind_any L k g8 (g5+1) g5 HLKL.out.1 HLKL.out.2 i W h8 hm.s7 hm.s5)
        have HBL:Hid (∀ i,behF (L.take k) i<=32):=Lib.hid (fun i=>beh_le (fun v hv=>HLE.out v (List.mem_of_mem_take hv)) i)
        have HSM:Hid (stepM cnt (L.take k) x=if x.kind=9 then 0 else if x.kind=8 then max (behF (L.take k) x.next) (behF (L.take k) x.els) else if cnt x.kind=true then 1+behF (L.take k) x.next else behF (L.take k) x.next):=Lib.hid rfl
        generalize stepM cnt (L.take k) x=v at HSM HLV
        by_cases h9:x.kind=9
        · have e9:((x.kind:Int) == 9)=true:=by rw [h9];rfl
          have HMN:=Lib.hid (HM2.out.keep HLV.out (by rw [HSM.out,if_pos h9]))
          clear h9
          go_wp2_with fail
          go_roundg (k0+1 - (k+1))
          case measure=>have:=HLT.out;omega
          case rel=>exact ⟨k+1,HLT.out,rfl,by go_num,HMN⟩
        have e9:((x.kind:Int) == 9)=false:=nbeq h9
        by_cases h8:x.kind=8
        · have e8:((x.kind:Int) == 8)=true:=by rw [h8];rfl
          have HVM:Hid (v=max (behF (L.take k) x.next) (behF (L.take k) x.els)):=Lib.hid (by rw [HSM.out,if_neg h9,if_pos h8])
          have HY1:=Lib.hid (fun W h h'=>HBH.out W x.next h h')
          have HY2:=Lib.hid (fun W h h'=>HBH.out W x.els h h')
          clear h8 h9
          go_upto_region 11 with (fail)
          clear a7 l7 l5 a8 l8 x0 x1 x2 x3 x4 x5 x6 x7 l9
          refine Flow.wp_flowG [44,45,46,47,48,49,50,51,52,53,54,55] [Flow.eqV (.slice (some ⟨g5,0,none⟩) (k0+1) (k0+1)),Flow.eqV (.int .i64 (k:Nat)),Flow.eqV (.func (.func 107) #[] #[.pointer (some ⟨g8,0,none⟩),.pointer (some ⟨g5+1,0,none⟩)]),Flow.eqV (.pointer (some ⟨g9,6,none⟩)),Flow.eqV (.int .i64 x.next),Flow.eqV (.int .i64 ((behF (L.take k) x.next:Nat):Int)),Flow.eqV (.func (.func 107) #[] #[.pointer (some ⟨g8,0,none⟩),.pointer (some ⟨g5+1,0,none⟩)]),Flow.eqV (.pointer (some ⟨g9,7,none⟩)),Flow.eqV (.int .i64 x.els),Flow.eqV (.int .i64 ((behF (L.take k) x.els:Nat):Int)),Flow.eqV (.int .i64 (max (behF (L.take k) x.next:Int) (behF (L.take k) x.els:Int))),Flow.eqV (.pointer (some ⟨g5,k,none⟩))]
            (by kernel_rfl) (by kernel_rfl) (by kernel_rfl) (by kernel_rfl) (by rfl) (by simp only [List.mem_cons,List.not_mem_nil,or_false,forall_eq_or_imp,forall_eq];refine ⟨?_,?_,?_,?_,?_,?_,?_,?_,?_,?_,?_,?_⟩ <;> exact Flow.eqV_mono _) ?_ ?_
          · intro i o hi ho A W hW hk he
            simp only [List.length_cons,List.length_nil,Nat.zero_add,Nat.reduceAdd] at hi
            have hmw:=HM2.out.grown hW
            have h8w:=H8.out.below hW H8.out.lt
            have h9w:=H9.out.below hW H9.out.lt
            have a7:W.cell? ⟨g5+1,0,none⟩=some (.slice (some ⟨g5,0,none⟩) (k0+1) (k0+1)):=by rw [<- HLL.out];exact hmw.s7.cell 0
            have l7:=hmw.s7.lt
            have l5:=hmw.s5.lt
            have a8:W.cell? ⟨g8,0,none⟩=some (.int .i64 (k:Nat)):=h8w.cell 0
            have l8:=h8w.lt
            have x0:W.cell? ⟨g9,0,none⟩=some (.int .u8 x.kind):=h9w.cell 0
            have x1:W.cell? ⟨g9,1,none⟩=some (.int .u8 x.reg):=h9w.cell 1
            have x2:W.cell? ⟨g9,2,none⟩=some (.int .u8 x.mode):=h9w.cell 2
            have x3:W.cell? ⟨g9,3,none⟩=some (.int .i64 x.loc):=h9w.cell 3
            have x4:W.cell? ⟨g9,4,none⟩=some (.pointer pa):=h9w.cell 4
            have x5:W.cell? ⟨g9,5,none⟩=some (.pointer pb):=h9w.cell 5
            have x6:W.cell? ⟨g9,6,none⟩=some (.int .i64 x.next):=h9w.cell 6
            have x7:W.cell? ⟨g9,7,none⟩=some (.int .i64 x.els):=h9w.cell 7
            have l9:=h9w.lt
            have HMW:=Lib.hid hmw
            have H8W:=Lib.hid h8w
            clear hmw h8w h9w
            obtain rfl | rfl | rfl | rfl | rfl | rfl | rfl | rfl | rfl | rfl | rfl | rfl:i=0 \/ i=1 \/ i=2 \/ i=3 \/ i=4 \/ i=5 \/ i=6 \/ i=7 \/ i=8 \/ i=9 \/ i=10 \/ i=11:=by omega
            · injection ho with ho;subst ho
              refine .inl ⟨Flow.wanted_free rfl,?_⟩
              have t7:A.tmps[7]?.getD undef = .pointer (some ⟨g5+1,0,none⟩):=hk 7 (by rfl)
              go_simp
              exact ⟨rfl,Below.refl _ _⟩
            · injection ho with ho;subst ho
              refine .inl ⟨Flow.wanted_free rfl,?_⟩
              have t8:A.tmps[8]?.getD undef = .pointer (some ⟨g8,0,none⟩):=hk 8 (by rfl)
              go_simp
              exact ⟨rfl,Below.refl _ _⟩
            · injection ho with ho;subst ho
              refine .inl ⟨Flow.wanted_free rfl,?_⟩
              have t10:A.tmps[10]?.getD undef = .func (.func 107) #[] #[.pointer (some ⟨g8,0,none⟩),.pointer (some ⟨g5+1,0,none⟩)]:=hk 10 (by rfl)
              go_simp
              exact ⟨rfl,Below.refl _ _⟩
            · injection ho with ho;subst ho
              refine .inl ⟨Flow.wanted_free rfl,?_⟩
              have t9:A.tmps[9]?.getD undef = .pointer (some ⟨g9,0,none⟩):=hk 9 (by rfl)
              go_simp
              exact ⟨rfl,Below.refl _ _⟩
            · injection ho with ho;subst ho
              refine .inl ⟨Flow.wanted_free rfl,?_⟩
              have t47:A.tmps[47]?.getD undef = .pointer (some ⟨g9,6,none⟩):=he 3 (by kernel_rfl)
              go_simp
              exact ⟨rfl,Below.refl _ _⟩
            · injection ho with ho;subst ho
              refine .inl ⟨Flow.wanted_free rfl,?_⟩
              have t46:A.tmps[46]?.getD undef = .func (.func 107) #[] #[.pointer (some ⟨g8,0,none⟩),.pointer (some ⟨g5+1,0,none⟩)]:=he 2 (by kernel_rfl)
              have t48:A.tmps[48]?.getD undef = .int .i64 x.next:=he 4 (by kernel_rfl)
              clear a7 l7 l5 a8 l8 x0 x1 x2 x3 x4 x5 x6 x7 l9
              go_simp
              refine Calls.mono (HBH.out W x.next HMW.out H8W.out) ?_
              rintro e' w' ⟨rfl,rfl⟩
              exact ⟨_,rfl,rfl,Below.refl _ _⟩
            · injection ho with ho;subst ho
              refine .inl ⟨Flow.wanted_free rfl,?_⟩
              have t10:A.tmps[10]?.getD undef = .func (.func 107) #[] #[.pointer (some ⟨g8,0,none⟩),.pointer (some ⟨g5+1,0,none⟩)]:=hk 10 (by rfl)
              go_simp
              exact ⟨rfl,Below.refl _ _⟩
            · injection ho with ho;subst ho
              refine .inl ⟨Flow.wanted_free rfl,?_⟩
              have t9:A.tmps[9]?.getD undef = .pointer (some ⟨g9,0,none⟩):=hk 9 (by rfl)
              go_simp
              exact ⟨rfl,Below.refl _ _⟩
            · injection ho with ho;subst ho
              refine .inl ⟨Flow.wanted_free rfl,?_⟩
              have t51:A.tmps[51]?.getD undef = .pointer (some ⟨g9,7,none⟩):=he 7 (by kernel_rfl)
              go_simp
              exact ⟨rfl,Below.refl _ _⟩
            · injection ho with ho;subst ho
              refine .inl ⟨Flow.wanted_free rfl,?_⟩
              have t50:A.tmps[50]?.getD undef = .func (.func 107) #[] #[.pointer (some ⟨g8,0,none⟩),.pointer (some ⟨g5+1,0,none⟩)]:=he 6 (by kernel_rfl)
              have t52:A.tmps[52]?.getD undef = .int .i64 x.els:=he 8 (by kernel_rfl)
              clear a7 l7 l5 a8 l8 x0 x1 x2 x3 x4 x5 x6 x7 l9
              go_simp
              refine Calls.mono (HBH.out W x.els HMW.out H8W.out) ?_
              rintro e' w' ⟨rfl,rfl⟩
              exact ⟨_,rfl,rfl,Below.refl _ _⟩
            · injection ho with ho;subst ho
              refine .inl ⟨Flow.wanted_free rfl,?_⟩
              have t49:A.tmps[49]?.getD undef = .int .i64 ((behF (L.take k) x.next:Nat):Int):=he 5 (by kernel_rfl)
              have t53:A.tmps[53]?.getD undef = .int .i64 ((behF (L.take k) x.els:Nat):Int):=he 9 (by kernel_rfl)
              go_simp
              exact ⟨rfl,Below.refl _ _⟩
            · injection ho with ho;subst ho
              refine .inl ⟨Flow.wanted_free rfl,?_⟩
              have t44:A.tmps[44]?.getD undef = .slice (some ⟨g5,0,none⟩) (k0+1) (k0+1):=he 0 (by kernel_rfl)
              have t45:A.tmps[45]?.getD undef = .int .i64 (k:Nat):=he 1 (by kernel_rfl)
              go_simp
              exact ⟨rfl,Below.refl _ _⟩
          · intro xs W hW hV
            have q0:xs 0 = .slice (some ⟨g5,0,none⟩) (k0+1) (k0+1):=hV 0 (by simp)
            have q1:xs 1 = .int .i64 (k:Nat):=hV 1 (by simp)
            have q2:xs 2 = .func (.func 107) #[] #[.pointer (some ⟨g8,0,none⟩),.pointer (some ⟨g5+1,0,none⟩)]:=hV 2 (by simp)
            have q3:xs 3 = .pointer (some ⟨g9,6,none⟩):=hV 3 (by simp)
            have q4:xs 4 = .int .i64 x.next:=hV 4 (by simp)
            have q5:xs 5 = .int .i64 ((behF (L.take k) x.next:Nat):Int):=hV 5 (by simp)
            have q6:xs 6 = .func (.func 107) #[] #[.pointer (some ⟨g8,0,none⟩),.pointer (some ⟨g5+1,0,none⟩)]:=hV 6 (by simp)
            have q7:xs 7 = .pointer (some ⟨g9,7,none⟩):=hV 7 (by simp)
            have q8:xs 8 = .int .i64 x.els:=hV 8 (by simp)
            have q9:xs 9 = .int .i64 ((behF (L.take k) x.els:Nat):Int):=hV 9 (by simp)
            have q10:xs 10 = .int .i64 (max (behF (L.take k) x.next:Int) (behF (L.take k) x.els:Int)):=hV 10 (by simp)
            have q11:xs 11 = .pointer (some ⟨g5,k,none⟩):=hV 11 (by simp)
            have HM5:=Lib.hid (HM2.out.grown hW)
            have HMN:=Lib.hid (HM5.out.put hg5 HLV.out)
            rw [HVM.out] at HMN
            have hmx:(((max (behF (L.take k) x.next) (behF (L.take k) x.els):Nat)):Int)=max (behF (L.take k) x.next:Int) (behF (L.take k) x.els:Int):=by omega
            rw [hmx] at HMN
            simp only [List.length_cons,List.length_nil,Nat.zero_add,Nat.reduceAdd,List.drop_succ_cons,List.drop_zero,Flow.putL,Act.put,List.setIfInBounds_toArray,List.set_cons_zero,List.set_cons_succ,q0,q1,q2,q3,q4,q5,q6,q7,q8,q9,q10,q11]
            have c5:W.cell? ⟨g5,k,none⟩=some (.int .i64 ((if k<k then L.getD k 0 else 0:Nat):Int)):=by rw [HM5.out.s5.cell k];exact valI_at L (by rw [HLL.out];exact HLT.out)
            have f5:=HM5.out.s5.free k
            have l5:=HM5.out.s5.lt
            clear hV hW q0 q1 q2 q3 q4 q5 q6 q7 q8 q9 q10 q11
            go_wp2_with fail
            go_roundg (k0+1 - (k+1))
            case measure=>have:=HLT.out;omega
            case rel=>exact ⟨k+1,HLT.out,rfl,by go_num,HMN⟩
        have e8:((x.kind:Int) == 8)=false:=nbeq h8
        cases hc:cnt x.kind with
        | true =>
          have HVM:Hid (v=1+behF (L.take k) x.next):=Lib.hid (by rw [HSM.out,if_neg h9,if_neg h8,if_pos hc])
          have HCT:=Lib.hid (fun W=>HFC.out x.kind W)
          rw [hc] at HCT
          clear h8 h9 hc
          go_wp2_with fail
          refine (HCT.out _).mono ?_
          rintro e W4 ⟨rfl,hb⟩
          have HM4:=Lib.hid (HM2.out.grown hb)
          have H84:=Lib.hid (H8.out.below hb H8.out.lt)
          have H94:=Lib.hid (H9.out.below hb H9.out.lt)
          clear a7 l7 l5 a8 l8 x0 x1 x2 x3 x4 x5 x6 x7 l9 hb
          have a7:W4.cell? ⟨g5+1,0,none⟩=some (.slice (some ⟨g5,0,none⟩) (k0+1) (k0+1)):=by rw [<- HLL.out];exact HM4.out.s7.cell 0
          have l7:=HM4.out.s7.lt
          have l5:=HM4.out.s5.lt
          have a8:W4.cell? ⟨g8,0,none⟩=some (.int .i64 (k:Nat)):=H84.out.cell 0
          have l8:=H84.out.lt
          have x0:W4.cell? ⟨g9,0,none⟩=some (.int .u8 x.kind):=H94.out.cell 0
          have x1:W4.cell? ⟨g9,1,none⟩=some (.int .u8 x.reg):=H94.out.cell 1
          have x2:W4.cell? ⟨g9,2,none⟩=some (.int .u8 x.mode):=H94.out.cell 2
          have x3:W4.cell? ⟨g9,3,none⟩=some (.int .i64 x.loc):=H94.out.cell 3
          have x4:W4.cell? ⟨g9,4,none⟩=some (.pointer pa):=H94.out.cell 4
          have x5:W4.cell? ⟨g9,5,none⟩=some (.pointer pb):=H94.out.cell 5
          have x6:W4.cell? ⟨g9,6,none⟩=some (.int .i64 x.next):=H94.out.cell 6
          have x7:W4.cell? ⟨g9,7,none⟩=some (.int .i64 x.els):=H94.out.cell 7
          have l9:=H94.out.lt
          have z1:(behF (L.take k) x.next:Int)<=32:=by have:=HBL.out x.next;omega
          have z0:(0:Int)<=(behF (L.take k) x.next:Int):=by omega
          go_upto_region 13 with (fail)
          clear a7 l7 l5 a8 l8 x0 x1 x2 x3 x4 x5 x6 x7 l9
          refine Flow.wp_flowG [62,63,64,65,66,67,68,69] [Flow.eqV (.slice (some ⟨g5,0,none⟩) (k0+1) (k0+1)),Flow.eqV (.int .i64 (k:Nat)),Flow.eqV (.func (.func 107) #[] #[.pointer (some ⟨g8,0,none⟩),.pointer (some ⟨g5+1,0,none⟩)]),Flow.eqV (.pointer (some ⟨g9,6,none⟩)),Flow.eqV (.int .i64 x.next),Flow.eqV (.int .i64 ((behF (L.take k) x.next:Nat):Int)),Flow.eqV (.int .i64 (1+(behF (L.take k) x.next:Int))),Flow.eqV (.pointer (some ⟨g5,k,none⟩))]
            (by kernel_rfl) (by kernel_rfl) (by kernel_rfl) (by kernel_rfl) (by rfl) (by simp only [List.mem_cons,List.not_mem_nil,or_false,forall_eq_or_imp,forall_eq];refine ⟨?_,?_,?_,?_,?_,?_,?_,?_⟩ <;> exact Flow.eqV_mono _) ?_ ?_
          · intro i o hi ho A W hW hk he
            simp only [List.length_cons,List.length_nil,Nat.zero_add,Nat.reduceAdd] at hi
            have hmw:=HM4.out.grown hW
            have h8w:=H84.out.below hW H84.out.lt
            have h9w:=H94.out.below hW H94.out.lt
            have a7:W.cell? ⟨g5+1,0,none⟩=some (.slice (some ⟨g5,0,none⟩) (k0+1) (k0+1)):=by rw [<- HLL.out];exact hmw.s7.cell 0
            have l7:=hmw.s7.lt
            have l5:=hmw.s5.lt
            have a8:W.cell? ⟨g8,0,none⟩=some (.int .i64 (k:Nat)):=h8w.cell 0
            have l8:=h8w.lt
            have x0:W.cell? ⟨g9,0,none⟩=some (.int .u8 x.kind):=h9w.cell 0
            have x1:W.cell? ⟨g9,1,none⟩=some (.int .u8 x.reg):=h9w.cell 1
            have x2:W.cell? ⟨g9,2,none⟩=some (.int .u8 x.mode):=h9w.cell 2
            have x3:W.cell? ⟨g9,3,none⟩=some (.int .i64 x.loc):=h9w.cell 3
            have x4:W.cell? ⟨g9,4,none⟩=some (.pointer pa):=h9w.cell 4
            have x5:W.cell? ⟨g9,5,none⟩=some (.pointer pb):=h9w.cell 5
            have x6:W.cell? ⟨g9,6,none⟩=some (.int .i64 x.next):=h9w.cell 6
            have x7:W.cell? ⟨g9,7,none⟩=some (.int .i64 x.els):=h9w.cell 7
            have l9:=h9w.lt
            have HMW:=Lib.hid hmw
            have H8W:=Lib.hid h8w
            clear hmw h8w h9w
            obtain rfl | rfl | rfl | rfl | rfl | rfl | rfl | rfl:i=0 \/ i=1 \/ i=2 \/ i=3 \/ i=4 \/ i=5 \/ i=6 \/ i=7:=by omega
            · injection ho with ho;subst ho
              refine .inl ⟨Flow.wanted_free rfl,?_⟩
              have t7:A.tmps[7]?.getD undef = .pointer (some ⟨g5+1,0,none⟩):=hk 7 (by rfl)
              go_simp
              exact ⟨rfl,Below.refl _ _⟩
            · injection ho with ho;subst ho
              refine .inl ⟨Flow.wanted_free rfl,?_⟩
              have t8:A.tmps[8]?.getD undef = .pointer (some ⟨g8,0,none⟩):=hk 8 (by rfl)
              go_simp
              exact ⟨rfl,Below.refl _ _⟩
            · injection ho with ho;subst ho
              refine .inl ⟨Flow.wanted_free rfl,?_⟩
              have t10:A.tmps[10]?.getD undef = .func (.func 107) #[] #[.pointer (some ⟨g8,0,none⟩),.pointer (some ⟨g5+1,0,none⟩)]:=hk 10 (by rfl)
              go_simp
              exact ⟨rfl,Below.refl _ _⟩
            · injection ho with ho;subst ho
              refine .inl ⟨Flow.wanted_free rfl,?_⟩
              have t9:A.tmps[9]?.getD undef = .pointer (some ⟨g9,0,none⟩):=hk 9 (by rfl)
              go_simp
              exact ⟨rfl,Below.refl _ _⟩
            · injection ho with ho;subst ho
              refine .inl ⟨Flow.wanted_free rfl,?_⟩
              have t65:A.tmps[65]?.getD undef = .pointer (some ⟨g9,6,none⟩):=he 3 (by kernel_rfl)
              go_simp
              exact ⟨rfl,Below.refl _ _⟩
            · injection ho with ho;subst ho
              refine .inl ⟨Flow.wanted_free rfl,?_⟩
              have t64:A.tmps[64]?.getD undef = .func (.func 107) #[] #[.pointer (some ⟨g8,0,none⟩),.pointer (some ⟨g5+1,0,none⟩)]:=he 2 (by kernel_rfl)
              have t66:A.tmps[66]?.getD undef = .int .i64 x.next:=he 4 (by kernel_rfl)
              clear a7 l7 l5 a8 l8 x0 x1 x2 x3 x4 x5 x6 x7 l9
              go_simp
              refine Calls.mono (HBH.out W x.next HMW.out H8W.out) ?_
              rintro e' w' ⟨rfl,rfl⟩
              exact ⟨_,rfl,rfl,Below.refl _ _⟩
            · injection ho with ho;subst ho
              refine .inl ⟨Flow.wanted_free rfl,?_⟩
              have t67:A.tmps[67]?.getD undef = .int .i64 ((behF (L.take k) x.next:Nat):Int):=he 5 (by kernel_rfl)
              go_simp
              refine ⟨?_,Below.refl _ _⟩
              show Value.int .i64 (IntKind.i64.wrap (1+_))=_
              rw [IntWalk.i64_in _ (by omega)]
            · injection ho with ho;subst ho
              refine .inl ⟨Flow.wanted_free rfl,?_⟩
              have t62:A.tmps[62]?.getD undef = .slice (some ⟨g5,0,none⟩) (k0+1) (k0+1):=he 0 (by kernel_rfl)
              have t63:A.tmps[63]?.getD undef = .int .i64 (k:Nat):=he 1 (by kernel_rfl)
              go_simp
              exact ⟨rfl,Below.refl _ _⟩
          · intro xs W hW hV
            have q0:xs 0 = .slice (some ⟨g5,0,none⟩) (k0+1) (k0+1):=hV 0 (by simp)
            have q1:xs 1 = .int .i64 (k:Nat):=hV 1 (by simp)
            have q2:xs 2 = .func (.func 107) #[] #[.pointer (some ⟨g8,0,none⟩),.pointer (some ⟨g5+1,0,none⟩)]:=hV 2 (by simp)
            have q3:xs 3 = .pointer (some ⟨g9,6,none⟩):=hV 3 (by simp)
            have q4:xs 4 = .int .i64 x.next:=hV 4 (by simp)
            have q5:xs 5 = .int .i64 ((behF (L.take k) x.next:Nat):Int):=hV 5 (by simp)
            have q6:xs 6 = .int .i64 (1+(behF (L.take k) x.next:Int)):=hV 6 (by simp)
            have q7:xs 7 = .pointer (some ⟨g5,k,none⟩):=hV 7 (by simp)
            have HM5:=Lib.hid (HM4.out.grown hW)
            have HMN:=Lib.hid (HM5.out.put hg5 HLV.out)
            rw [HVM.out] at HMN
            simp only [List.length_cons,List.length_nil,Nat.zero_add,Nat.reduceAdd,List.drop_succ_cons,List.drop_zero,Flow.putL,Act.put,List.setIfInBounds_toArray,List.set_cons_zero,List.set_cons_succ,q0,q1,q2,q3,q4,q5,q6,q7]
            have c5:W.cell? ⟨g5,k,none⟩=some (.int .i64 ((if k<k then L.getD k 0 else 0:Nat):Int)):=by rw [HM5.out.s5.cell k];exact valI_at L (by rw [HLL.out];exact HLT.out)
            have f5:=HM5.out.s5.free k
            have l5:=HM5.out.s5.lt
            clear hV hW q0 q1 q2 q3 q4 q5 q6 q7
            go_wp2_with fail
            go_roundg (k0+1 - (k+1))
            case measure=>have:=HLT.out;omega
            case rel=>exact ⟨k+1,HLT.out,rfl,by go_num,HMN⟩
        | false =>
          have HVM:Hid (v=behF (L.take k) x.next):=Lib.hid (by rw [HSM.out,if_neg h9,if_neg h8,if_neg (by rw [hc];decide)])
          have HCT:=Lib.hid (fun W=>HFC.out x.kind W)
          rw [hc] at HCT
          clear h8 h9 hc
          go_wp2_with fail
          refine (HCT.out _).mono ?_
          rintro e W4 ⟨rfl,hb⟩
          have HM4:=Lib.hid (HM2.out.grown hb)
          have H84:=Lib.hid (H8.out.below hb H8.out.lt)
          have H94:=Lib.hid (H9.out.below hb H9.out.lt)
          clear a7 l7 l5 a8 l8 x0 x1 x2 x3 x4 x5 x6 x7 l9 hb
          have a7:W4.cell? ⟨g5+1,0,none⟩=some (.slice (some ⟨g5,0,none⟩) (k0+1) (k0+1)):=by rw [<- HLL.out];exact HM4.out.s7.cell 0
          have l7:=HM4.out.s7.lt
          have l5:=HM4.out.s5.lt
          have a8:W4.cell? ⟨g8,0,none⟩=some (.int .i64 (k:Nat)):=H84.out.cell 0
          have l8:=H84.out.lt
          have x0:W4.cell? ⟨g9,0,none⟩=some (.int .u8 x.kind):=H94.out.cell 0
          have x1:W4.cell? ⟨g9,1,none⟩=some (.int .u8 x.reg):=H94.out.cell 1
          have x2:W4.cell? ⟨g9,2,none⟩=some (.int .u8 x.mode):=H94.out.cell 2
          have x3:W4.cell? ⟨g9,3,none⟩=some (.int .i64 x.loc):=H94.out.cell 3
          have x4:W4.cell? ⟨g9,4,none⟩=some (.pointer pa):=H94.out.cell 4
          have x5:W4.cell? ⟨g9,5,none⟩=some (.pointer pb):=H94.out.cell 5
          have x6:W4.cell? ⟨g9,6,none⟩=some (.int .i64 x.next):=H94.out.cell 6
          have x7:W4.cell? ⟨g9,7,none⟩=some (.int .i64 x.els):=H94.out.cell 7
          have l9:=H94.out.lt
          have z1:(behF (L.take k) x.next:Int)<=32:=by have:=HBL.out x.next;omega
          have z0:(0:Int)<=(behF (L.take k) x.next:Int):=by omega
          go_upto_region 8 with (fail)
          clear a7 l7 l5 a8 l8 x0 x1 x2 x3 x4 x5 x6 x7 l9
          refine Flow.wp_flowG [29,30,31,32,33,34,35] [Flow.eqV (.slice (some ⟨g5,0,none⟩) (k0+1) (k0+1)),Flow.eqV (.int .i64 (k:Nat)),Flow.eqV (.func (.func 107) #[] #[.pointer (some ⟨g8,0,none⟩),.pointer (some ⟨g5+1,0,none⟩)]),Flow.eqV (.pointer (some ⟨g9,6,none⟩)),Flow.eqV (.int .i64 x.next),Flow.eqV (.int .i64 ((behF (L.take k) x.next:Nat):Int)),Flow.eqV (.pointer (some ⟨g5,k,none⟩))]
            (by kernel_rfl) (by kernel_rfl) (by kernel_rfl) (by kernel_rfl) (by rfl) (by simp only [List.mem_cons,List.not_mem_nil,or_false,forall_eq_or_imp,forall_eq];refine ⟨?_,?_,?_,?_,?_,?_,?_⟩ <;> exact Flow.eqV_mono _) ?_ ?_
          · intro i o hi ho A W hW hk he
            simp only [List.length_cons,List.length_nil,Nat.zero_add,Nat.reduceAdd] at hi
            have hmw:=HM4.out.grown hW
            have h8w:=H84.out.below hW H84.out.lt
            have h9w:=H94.out.below hW H94.out.lt
            have a7:W.cell? ⟨g5+1,0,none⟩=some (.slice (some ⟨g5,0,none⟩) (k0+1) (k0+1)):=by rw [<- HLL.out];exact hmw.s7.cell 0
            have l7:=hmw.s7.lt
            have l5:=hmw.s5.lt
            have a8:W.cell? ⟨g8,0,none⟩=some (.int .i64 (k:Nat)):=h8w.cell 0
            have l8:=h8w.lt
            have x0:W.cell? ⟨g9,0,none⟩=some (.int .u8 x.kind):=h9w.cell 0
            have x1:W.cell? ⟨g9,1,none⟩=some (.int .u8 x.reg):=h9w.cell 1
            have x2:W.cell? ⟨g9,2,none⟩=some (.int .u8 x.mode):=h9w.cell 2
            have x3:W.cell? ⟨g9,3,none⟩=some (.int .i64 x.loc):=h9w.cell 3
            have x4:W.cell? ⟨g9,4,none⟩=some (.pointer pa):=h9w.cell 4
            have x5:W.cell? ⟨g9,5,none⟩=some (.pointer pb):=h9w.cell 5
            have x6:W.cell? ⟨g9,6,none⟩=some (.int .i64 x.next):=h9w.cell 6
            have x7:W.cell? ⟨g9,7,none⟩=some (.int .i64 x.els):=h9w.cell 7
            have l9:=h9w.lt
            have HMW:=Lib.hid hmw
            have H8W:=Lib.hid h8w
            clear hmw h8w h9w
            obtain rfl | rfl | rfl | rfl | rfl | rfl | rfl:i=0 \/ i=1 \/ i=2 \/ i=3 \/ i=4 \/ i=5 \/ i=6:=by omega
            · injection ho with ho;subst ho
              refine .inl ⟨Flow.wanted_free rfl,?_⟩
              have t7:A.tmps[7]?.getD undef = .pointer (some ⟨g5+1,0,none⟩):=hk 7 (by rfl)
              go_simp
              exact ⟨rfl,Below.refl _ _⟩
            · injection ho with ho;subst ho
              refine .inl ⟨Flow.wanted_free rfl,?_⟩
              have t8:A.tmps[8]?.getD undef = .pointer (some ⟨g8,0,none⟩):=hk 8 (by rfl)
              go_simp
              exact ⟨rfl,Below.refl _ _⟩
            · injection ho with ho;subst ho
              refine .inl ⟨Flow.wanted_free rfl,?_⟩
              have t10:A.tmps[10]?.getD undef = .func (.func 107) #[] #[.pointer (some ⟨g8,0,none⟩),.pointer (some ⟨g5+1,0,none⟩)]:=hk 10 (by rfl)
              go_simp
              exact ⟨rfl,Below.refl _ _⟩
            · injection ho with ho;subst ho
              refine .inl ⟨Flow.wanted_free rfl,?_⟩
              have t9:A.tmps[9]?.getD undef = .pointer (some ⟨g9,0,none⟩):=hk 9 (by rfl)
              go_simp
              exact ⟨rfl,Below.refl _ _⟩
            · injection ho with ho;subst ho
              refine .inl ⟨Flow.wanted_free rfl,?_⟩
              have t32:A.tmps[32]?.getD undef = .pointer (some ⟨g9,6,none⟩):=he 3 (by kernel_rfl)
              go_simp
              exact ⟨rfl,Below.refl _ _⟩
            · injection ho with ho;subst ho
              refine .inl ⟨Flow.wanted_free rfl,?_⟩
              have t31:A.tmps[31]?.getD undef = .func (.func 107) #[] #[.pointer (some ⟨g8,0,none⟩),.pointer (some ⟨g5+1,0,none⟩)]:=he 2 (by kernel_rfl)
              have t33:A.tmps[33]?.getD undef = .int .i64 x.next:=he 4 (by kernel_rfl)
              clear a7 l7 l5 a8 l8 x0 x1 x2 x3 x4 x5 x6 x7 l9
              go_simp
              refine Calls.mono (HBH.out W x.next HMW.out H8W.out) ?_
              rintro e' w' ⟨rfl,rfl⟩
              exact ⟨_,rfl,rfl,Below.refl _ _⟩
            · injection ho with ho;subst ho
              refine .inl ⟨Flow.wanted_free rfl,?_⟩
              have t29:A.tmps[29]?.getD undef = .slice (some ⟨g5,0,none⟩) (k0+1) (k0+1):=he 0 (by kernel_rfl)
              have t30:A.tmps[30]?.getD undef = .int .i64 (k:Nat):=he 1 (by kernel_rfl)
              go_simp
              exact ⟨rfl,Below.refl _ _⟩
          · intro xs W hW hV
            have q0:xs 0 = .slice (some ⟨g5,0,none⟩) (k0+1) (k0+1):=hV 0 (by simp)
            have q1:xs 1 = .int .i64 (k:Nat):=hV 1 (by simp)
            have q2:xs 2 = .func (.func 107) #[] #[.pointer (some ⟨g8,0,none⟩),.pointer (some ⟨g5+1,0,none⟩)]:=hV 2 (by simp)
            have q3:xs 3 = .pointer (some ⟨g9,6,none⟩):=hV 3 (by simp)
            have q4:xs 4 = .int .i64 x.next:=hV 4 (by simp)
            have q5:xs 5 = .int .i64 ((behF (L.take k) x.next:Nat):Int):=hV 5 (by simp)
            have q6:xs 6 = .pointer (some ⟨g5,k,none⟩):=hV 6 (by simp)
            have HM5:=Lib.hid (HM4.out.grown hW)
            have HMN:=Lib.hid (HM5.out.put hg5 HLV.out)
            rw [HVM.out] at HMN
            simp only [List.length_cons,List.length_nil,Nat.zero_add,Nat.reduceAdd,List.drop_succ_cons,List.drop_zero,Flow.putL,Act.put,List.setIfInBounds_toArray,List.set_cons_zero,List.set_cons_succ,q0,q1,q2,q3,q4,q5,q6]
            have c5:W.cell? ⟨g5,k,none⟩=some (.int .i64 ((if k<k then L.getD k 0 else 0:Nat):Int)):=by rw [HM5.out.s5.cell k];exact valI_at L (by rw [HLL.out];exact HLT.out)
            have f5:=HM5.out.s5.free k
            have l5:=HM5.out.s5.lt
            clear hV hW q0 q1 q2 q3 q4 q5 q6
            go_wp2_with fail
            go_roundg (k0+1 - (k+1))
            case measure=>have:=HLT.out;omega
            case rel=>exact ⟨k+1,HLT.out,rfl,by go_num,HMN⟩
      · obtain rfl:k=k0+1:=by omega
        have a7:wr.cell? ⟨g5+1,0,none⟩=some (.slice (some ⟨g5,0,none⟩) (k0+1) (k0+1)):=by rw [<- HLL.out];exact HM.out.s7.cell 0
        have l7:=HM.out.s7.lt
        have l5:=HM.out.s5.lt
        have c5:wr.cell? ⟨g5,k0,none⟩=some (.int .i64 (L.getD k0 0:Nat)):=by rw [HM.out.s5.cell k0,valI_at L (by rw [HLL.out];omega),if_pos (by omega)]
        clear hk hlt
        have HML:=Lib.hid HM.out.low
        clear HM
        go_wp2_with fail
        go_ret
        rw [HRS.out]
        exact ⟨rfl,HML.out⟩
end Go.Proofs.YtagebkachdmnbaaGreatDoor.Thr
end
