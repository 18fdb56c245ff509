/- Part 40 of the proof: what is used of the texts ThrC. -/
import Derived.Test.YtagebkachdmnbaaGreatDoorED8
import Derived.Test.YtagebkachdmnbaaGreatDoorEC0
import Derived.Laws.Tables
section
namespace Go.Proofs.YtagebkachdmnbaaGreatDoor.Thr
open Go.RowKit Go.Shelf Go.Proofs.YtagebkachdmnbaaGreatDoor.Mem Go.Proofs.YtagebkachdmnbaaGreatDoor.Expr Go.Proofs.YtagebkachdmnbaaGreatDoor.Prog Go.Proofs.YtagebkachdmnbaaGreatDoor.Row Go.Proofs.YtagebkachdmnbaaGreatDoor.Unr Go.Lib
def CodV (w:World) (r:Option Addr) (code:List In):Prop:=∃ css,Lay w r css/\InsV w code css
theorem CodV.below {w w':World} {r:Option Addr} {code:List In} (h:CodV w r code) (hb:Below w.heap.size w w'):CodV w' r code:=by
  obtain ⟨css,h1,h2⟩:=h
  exact ⟨css,h1.below hb,h2.stable (Stable.below hb)⟩
theorem CodV.at_ {w:World} {r:Option Addr} {code:List In} (h:CodV w r code) {k:Nat} {x:In} (hx:code[k]? = some x) :
    ∃ g o pa pb,r=some ⟨g,o,none⟩/\g<w.heap.size/\Tree w (trO x.a) (.pointer pa)/\Tree w (trO x.b) (.pointer pb)/\∀ i,i<8->w.cell? ⟨g,o+(k * 8+i),none⟩=(inCells x (.pointer pa) (.pointer pb))[i]?:=by
  obtain ⟨css,h1,h2⟩:=h
  obtain ⟨av,bv,ha,hb,hc⟩:=h2.at_ hx
  obtain ⟨pa,rfl,_⟩:=ha.ptr
  obtain ⟨pb,rfl,_⟩:=hb.ptr
  have each:∀ i,i<8->∃ g o,r=some ⟨g,o,none⟩/\g<w.heap.size/\w.cell? ⟨g,o+(k * 8+i),none⟩=(inCells x (.pointer pa) (.pointer pb))[i]?:=fun i hi=>by
    have hs:(inCells x (.pointer pa) (.pointer pb))[i]? = some ((inCells x (.pointer pa) (.pointer pb))[i]'(by simp [inCells];omega)):=List.getElem?_eq_getElem _
    obtain ⟨g,o,e1,e2,e3⟩:=h1 (k * 8+i) _ ((hc i hi).trans hs)
    exact ⟨g,o,e1,e2,e3.trans hs.symm⟩
  obtain ⟨g,o,e1,e2,_⟩:=each 0 (by omega)
  refine ⟨g,o,pa,pb,e1,e2,ha,hb,fun i hi=>?_⟩
  obtain ⟨g',o',e3,_,e4⟩:=each i hi
  rw [e1] at e3
  injection e3 with e3;injection e3 with e5 e6;subst e5 e6
  exact e4
abbrev stZ:Array Value:=#[.int .i64 0,.int .u64 0,.int .u64 0,.int .u64 0,.int .u64 0,.int .u64 0,.int .u64 0,.int .u64 0,.int .u64 0]
abbrev inC (x:In) (pa pb:Option Addr):Array Value:=#[.int .u8 x.kind,.int .u8 x.reg,.int .u8 x.mode,.int .i64 x.loc,.pointer pa,.pointer pb,.int .i64 x.next,.int .i64 x.els]
theorem stSize:(Tryz.prog.info? 52).map (·.size)=some 9:=by kernel_rfl
theorem st_one (s:St):(stC s).all (·.oneCell')=true:=by simp [Value.oneCell']
structure RunV (w:World) (r:Option Addr) (n d:Nat) (b:Int) (s:St) (W:World):Prop where
  s2:StB w.heap.size s W
  s3:Sits W (w.heap.size+1) 44 #[.slice r n d,.int .i64 b]
  s4:Sits W (w.heap.size+2) 52 stZ
  low:Below w.heap.size w W
section
variable {w W W' : World} {r : Option Addr} {n d : Nat} {b : Int} {s : St}
theorem RunV.grown (h:RunV w r n d b s W) (hb:Below W.heap.size W W'):RunV w r n d b s W' :=
  ⟨h.s2.below hb h.s2.lt,h.s3.below hb h.s3.lt,h.s4.below hb h.s4.lt,h.low.trans (hb.mono h.low.size)⟩
theorem RunV.put (h:RunV w r n d b s W) {s':St} (hs:StB w.heap.size s' W') (hk:Keeps (fun x=>x=w.heap.size) W W'):RunV w r n d b s' W' :=
  ⟨hs,h.s3.keep hk (by omega),h.s4.keep hk (by omega),h.low.trans (hk.below h.low.size (fun b e=>by omega))⟩
theorem RunV.go (h:RunV w r n d b s W) (i:Int):RunV w r n d b ⟨i,s.r⟩ (W.setCell ⟨w.heap.size,0,none⟩ (.int .i64 i)) :=
  h.put (h.s2.put 0 _) (Keeps.put (Keeps.refl (fun x=>x=w.heap.size) W) (.inl rfl) _)
end
def RunAt (w:World) (r:Option Addr) (n d:Nat) (b:Int) (code:List In) (tgt:St) (m:Nat) (a:Act) (W:World):Prop :=
  ∃ s,a.defers=[]/\a.tmps.size=54/\Lex.slot a.tmps 2 = .pointer (some ⟨w.heap.size,0,none⟩)/\Lex.slot a.tmps 3 = .pointer (some ⟨w.heap.size+1,0,none⟩) /\
    Lex.slot a.tmps 4 = .pointer (some ⟨w.heap.size+2,0,none⟩)/\Lex.slot a.tmps 5 = .int .i64 (m:Nat)/\m<=32/\Reg64 s.r/\runF code m s=tgt/\RunV w r n d b s W
theorem result_st {fn:Func} {p:Tmp} (h:fn.results=#[.cell p 52]) {T:Array Value} {W:World} {g:Nat} {s:St} (hp:T.getD p undef = .pointer (some ⟨g,0,none⟩)) (hs:Sits W g 52 (stC s)) :
    (results fn T).run Tryz.prog W = .ok (stV s) W:=results_cell_row h T W g _ _ _ _ hp hs Tryz.underlying52 rfl stSize
def okI (x:In):Prop:=okV x.a/\okV x.b
theorem end_at {code:List In} {i:Int} (h:endF code.length i=false):∃ (k:Nat) (x:In),i=(k:Int)/\code[k]? = some x/\atI code i=some x:=by
  have h':¬ (i<0 \/ (code.length:Int)<=i):=of_decide_eq_false h
  have hk:i.toNat<code.length:=by omega
  refine ⟨i.toNat,code[i.toNat],by omega,List.getElem?_eq_getElem hk,?_⟩
  unfold atI;rw [if_pos (by omega)];exact List.getElem?_eq_getElem hk
theorem end_not {code:List In} {i:Int} (h:endF code.length i=true):atI code i=none:=by
  have h':i<0 \/ (code.length:Int)<=i:=of_decide_eq_true h
  unfold atI;split
  · exact List.getElem?_eq_none (by omega)
  · rfl
theorem row_low' {w W:World} {g:Nat} (h:Below w.heap.size w W) (hg:w.heap.size<=g) (cs:Array Value):Below w.heap.size w (W.setRow g cs) :=
  ⟨h.os,h.tape,h.output,by simpa [World.setRow] using h.size,fun b hb=>(setRow_other W g b cs (by omega)).trans (h.block b hb)⟩
set_option maxHeartbeats 8000000 in
set_option maxRecDepth 100000 in
theorem run_any (code:List In) (hl:code.length<=32) (hI:∀ x ∈ code,okI x) (r:Option Addr) (d:Nat) (b:Int) (s:St) (h64:Reg64 s.r) (w:World) (hC:CodV w r code) :
    Calls Tryz.prog 46 #[stV s,thV r code.length d b] w (Made (.returned (stV (runF code code.length s))) w):=by
  have HC:=Lib.hid hC
  have HI:=Lib.hid hI
  have HL:=Lib.hid hl
  have H64:=Lib.hid h64
  have hstart:RunV w r code.length d b s (((w.alloc (.cells (stC s) 52)).alloc (.cells #[.slice r code.length d,.int .i64 b] 44)).alloc (.cells stZ 52)):=by
    refine ⟨((Sits.new w _ _).alloc _).alloc _,(Sits.made (by simp) _ _).alloc _,Sits.made (by simp) _ _,(((Below.refl _ _).alloc (Nat.le_refl _) _).alloc (by simp) _).alloc (by simp;omega) _⟩
  have HS:=Lib.hid hstart
  clear hC hI hl h64 hstart
  generalize ht:runF code code.length s=tgt
  have HT:=Lib.hid ht
  clear ht
  obtain ⟨i,f⟩:=s
  show Calls _ _ #[.agg #[.int .i64 i,.int .u64 (f 0),.int .u64 (f 1),.int .u64 (f 2),.int .u64 (f 3),.int .u64 (f 4),.int .u64 (f 5),.int .u64 (f 6),.int .u64 (f 7)],_] _ _
  go_enter Tryz.func46,Tryz.ntmps46
  go_wp2_with fail
  refine Lex.wp_scope_hub 0 (RunAt w r code.length d b code tgt) rfl ?_ ?_
  · rintro m ⟨tm,df⟩ W ⟨s,hdf,hsz,h2,h3,h4,h5,hm,h64,hrun,hv⟩
    simp only at hdf hsz h2 h3 h4 h5
    subst hdf
    have hsp:=Lex.spread tm 54 hsz
    simp only [List.range,List.range.loop,List.map_cons,List.map_nil,h2,h3,h4,h5] at hsp
    rw [hsp]
    clear hsp h2 h3 h4 h5 hsz
    have HV:=Lib.hid hv
    have HR:=Lib.hid hrun
    have H64:=Lib.hid h64
    clear hv hrun h64
    obtain ⟨i,f⟩:=s
    have a0:W.cell? ⟨w.heap.size,0,none⟩=some (.int .i64 i):=HV.out.s2.cell 0
    have a1:W.cell? ⟨w.heap.size,1,none⟩=some (.int .u64 (f 0)):=HV.out.s2.cell 1
    have a2:W.cell? ⟨w.heap.size,2,none⟩=some (.int .u64 (f 1)):=HV.out.s2.cell 2
    have a3:W.cell? ⟨w.heap.size,3,none⟩=some (.int .u64 (f 2)):=HV.out.s2.cell 3
    have a4:W.cell? ⟨w.heap.size,4,none⟩=some (.int .u64 (f 3)):=HV.out.s2.cell 4
    have a5:W.cell? ⟨w.heap.size,5,none⟩=some (.int .u64 (f 4)):=HV.out.s2.cell 5
    have a6:W.cell? ⟨w.heap.size,6,none⟩=some (.int .u64 (f 5)):=HV.out.s2.cell 6
    have a7:W.cell? ⟨w.heap.size,7,none⟩=some (.int .u64 (f 6)):=HV.out.s2.cell 7
    have a8:W.cell? ⟨w.heap.size,8,none⟩=some (.int .u64 (f 7)):=HV.out.s2.cell 8
    have la:=HV.out.s2.lt
    have fa:=HV.out.s2.free 0
    have b0:W.cell? ⟨w.heap.size+1,0,none⟩=some (.slice (r) code.length d):=HV.out.s3.cell 0
    have b1:W.cell? ⟨w.heap.size+1,1,none⟩=some (.int .i64 b):=HV.out.s3.cell 1
    have lb:=HV.out.s3.lt
    by_cases hm0:m=0
    · subst hm0
      have ez:(((0:Nat):Int) == 0)=true:=rfl
      go_wp2_with (refine wpList_store_row rfl 52 _ _ rfl (w.heap.size+2) (stC ⟨i,f⟩) rfl rfl 52 _ HV.out.s4 stSize rfl (st_one _) ?_)
      refine bodyPost_ret (v:=stV ⟨i,f⟩) (result_st Tryz.results46 rfl (setRow_heap _ _ _ _ _ _ HV.out.s4)) rfl ⟨?_,row_low' HV.out.low (by omega) _⟩
      rw [<- HR.out];rfl
    obtain ⟨m,rfl⟩:∃ k,m=k+1:=⟨m - 1,by omega⟩
    have em:(((m+1:Nat):Int) == 0)=false:=beq_eq_false_iff_ne.2 (by omega)
    have i1:((m+1:Nat):Int)<=32:=by omega
    have i2:(1:Int)<=((m+1:Nat):Int):=by omega
    have HE:=Lib.hid (fun W=>ended_any r code.length d b ⟨i,f⟩ W)
    have HE:Hid (∀ W,Calls Tryz.prog 20 #[thV r code.length d b,stV ⟨i,f⟩] W (Made (.returned (.bool (endF code.length i))) W)):=HE
    cases hend:endF code.length i with
    | true =>
      rw [hend] at HE
      have HN:=Lib.hid (end_not hend)
      clear hend hm0
      go_wp2_with fail
      refine (HE.out _).mono ?_
      rintro e W1 ⟨rfl,hb⟩
      have HV1:=Lib.hid (HV.out.grown hb)
      clear a0 a1 a2 a3 a4 a5 a6 a7 a8 la fa b0 b1 lb hb
      have a0:W1.cell? ⟨w.heap.size,0,none⟩=some (.int .i64 i):=HV1.out.s2.cell 0
      have a1:W1.cell? ⟨w.heap.size,1,none⟩=some (.int .u64 (f 0)):=HV1.out.s2.cell 1
      have a2:W1.cell? ⟨w.heap.size,2,none⟩=some (.int .u64 (f 1)):=HV1.out.s2.cell 2
      have a3:W1.cell? ⟨w.heap.size,3,none⟩=some (.int .u64 (f 2)):=HV1.out.s2.cell 3
      have a4:W1.cell? ⟨w.heap.size,4,none⟩=some (.int .u64 (f 3)):=HV1.out.s2.cell 4
      have a5:W1.cell? ⟨w.heap.size,5,none⟩=some (.int .u64 (f 4)):=HV1.out.s2.cell 5
      have a6:W1.cell? ⟨w.heap.size,6,none⟩=some (.int .u64 (f 5)):=HV1.out.s2.cell 6
      have a7:W1.cell? ⟨w.heap.size,7,none⟩=some (.int .u64 (f 6)):=HV1.out.s2.cell 7
      have a8:W1.cell? ⟨w.heap.size,8,none⟩=some (.int .u64 (f 7)):=HV1.out.s2.cell 8
      have la:=HV1.out.s2.lt
      have fa:=HV1.out.s2.free 0
      have b0:W1.cell? ⟨w.heap.size+1,0,none⟩=some (.slice (r) code.length d):=HV1.out.s3.cell 0
      have b1:W1.cell? ⟨w.heap.size+1,1,none⟩=some (.int .i64 b):=HV1.out.s3.cell 1
      have lb:=HV1.out.s3.lt
      go_wp2_with (refine wpList_store_row rfl 52 _ _ rfl (w.heap.size+2) (stC ⟨i,f⟩) rfl rfl 52 _ HV1.out.s4 stSize rfl (st_one _) ?_)
      refine bodyPost_ret (v:=stV ⟨i,f⟩) (result_st Tryz.results46 rfl (setRow_heap _ _ _ _ _ _ HV1.out.s4)) rfl ⟨?_,row_low' HV1.out.low (by omega) _⟩
      rw [<- HR.out]
      show Ending.returned _=Ending.returned (stV (match atI code i with | none=>⟨i,f⟩ | some x=>_))
      rw [HN.out]
    | false =>
      rw [hend] at HE
      obtain ⟨k,x,hik,hx,hat⟩:=end_at hend
      subst hik
      have HX:=Lib.hid hx
      have HR1:Hid ((if x.kind=1 then runF code m (setS ⟨k,f⟩ x) else if x.kind=8 then runF code m (goS ⟨k,f⟩ x) else ⟨k,f⟩)=tgt):=Lib.hid (by
        rw [<- HR.out]
        show _=(match atI code k with | none=>_ | some x=>_)
        rw [hat])
      have HK:Hid (k<code.length):=Lib.hid (List.getElem?_eq_some_iff.1 hx).1
      have kl:(k:Int)<(code.length:Int):=by have:=HK.out;omega
      have HOK:=Lib.hid (HI.out x (List.mem_of_getElem? hx))
      clear hend hm0 hx hat HR
      go_wp2_with fail
      refine (HE.out _).mono ?_
      rintro e W1 ⟨rfl,hb⟩
      have HV1:=Lib.hid (HV.out.grown hb)
      obtain ⟨gx,ox,pa,pb,hr,hgx,hta,htb,hcx⟩:=(HC.out.below HV1.out.low).at_ HX.out
      subst hr
      have HTA:=Lib.hid hta
      clear a0 a1 a2 a3 a4 a5 a6 a7 a8 la fa b0 b1 lb hb htb hta
      have a0:W1.cell? ⟨w.heap.size,0,none⟩=some (.int .i64 k):=HV1.out.s2.cell 0
      have a1:W1.cell? ⟨w.heap.size,1,none⟩=some (.int .u64 (f 0)):=HV1.out.s2.cell 1
      have a2:W1.cell? ⟨w.heap.size,2,none⟩=some (.int .u64 (f 1)):=HV1.out.s2.cell 2
      have a3:W1.cell? ⟨w.heap.size,3,none⟩=some (.int .u64 (f 2)):=HV1.out.s2.cell 3
      have a4:W1.cell? ⟨w.heap.size,4,none⟩=some (.int .u64 (f 3)):=HV1.out.s2.cell 4
      have a5:W1.cell? ⟨w.heap.size,5,none⟩=some (.int .u64 (f 4)):=HV1.out.s2.cell 5
      have a6:W1.cell? ⟨w.heap.size,6,none⟩=some (.int .u64 (f 5)):=HV1.out.s2.cell 6
      have a7:W1.cell? ⟨w.heap.size,7,none⟩=some (.int .u64 (f 6)):=HV1.out.s2.cell 7
      have a8:W1.cell? ⟨w.heap.size,8,none⟩=some (.int .u64 (f 7)):=HV1.out.s2.cell 8
      have la:=HV1.out.s2.lt
      have fa:=HV1.out.s2.free 0
      have b0:W1.cell? ⟨w.heap.size+1,0,none⟩=some (.slice (some ⟨gx,ox,none⟩) code.length d):=HV1.out.s3.cell 0
      have b1:W1.cell? ⟨w.heap.size+1,1,none⟩=some (.int .i64 b):=HV1.out.s3.cell 1
      have lb:=HV1.out.s3.lt
      have x0:W1.cell? ⟨gx,ox+k * 8,none⟩=some (.int .u8 x.kind):=hcx 0 (by omega)
      have x1:W1.cell? ⟨gx,ox+k * 8+1,none⟩=some (.int .u8 x.reg):=hcx 1 (by omega)
      have x2:W1.cell? ⟨gx,ox+k * 8+2,none⟩=some (.int .u8 x.mode):=hcx 2 (by omega)
      have x3:W1.cell? ⟨gx,ox+k * 8+3,none⟩=some (.int .i64 x.loc):=hcx 3 (by omega)
      have x4:W1.cell? ⟨gx,ox+k * 8+4,none⟩=some (.pointer pa):=hcx 4 (by omega)
      have x5:W1.cell? ⟨gx,ox+k * 8+5,none⟩=some (.pointer pb):=hcx 5 (by omega)
      have x6:W1.cell? ⟨gx,ox+k * 8+6,none⟩=some (.int .i64 x.next):=hcx 6 (by omega)
      have x7:W1.cell? ⟨gx,ox+k * 8+7,none⟩=some (.int .i64 x.els):=hcx 7 (by omega)
      clear hcx
      go_upto_region 6 with (fail)
      have HB2:=Lib.hid (one_low W1 (.cells (inC x pa pb) 82))
      have HV2:=Lib.hid (HV1.out.grown HB2.out)
      have HX2:Hid (Sits (W1.alloc (.cells (inC x pa pb) 82)) W1.heap.size 82 (inC x pa pb)):=Lib.hid (Sits.new _ _ _)
      have HT2:=Lib.hid (HTA.out.below HB2.out)
      change Code.wp _ _ _ _ (W1.alloc (.cells (inC x pa pb) 82))
      have hg6:w.heap.size<W1.heap.size:=HV1.out.s2.lt
      generalize W1.alloc (.cells (inC x pa pb) 82)=W2 at HB2 HV2 HX2 HT2 ⊢
      generalize W1.heap.size=g6 at HX2 hg6 ⊢
      clear a0 a1 a2 a3 a4 a5 a6 a7 a8 la fa b0 b1 lb x0 x1 x2 x3 x4 x5 x6 x7 HB2 HTA
      have a0:W2.cell? ⟨w.heap.size,0,none⟩=some (.int .i64 k):=HV2.out.s2.cell 0
      have a1:W2.cell? ⟨w.heap.size,1,none⟩=some (.int .u64 (f 0)):=HV2.out.s2.cell 1
      have a2:W2.cell? ⟨w.heap.size,2,none⟩=some (.int .u64 (f 1)):=HV2.out.s2.cell 2
      have a3:W2.cell? ⟨w.heap.size,3,none⟩=some (.int .u64 (f 2)):=HV2.out.s2.cell 3
      have a4:W2.cell? ⟨w.heap.size,4,none⟩=some (.int .u64 (f 3)):=HV2.out.s2.cell 4
      have a5:W2.cell? ⟨w.heap.size,5,none⟩=some (.int .u64 (f 4)):=HV2.out.s2.cell 5
      have a6:W2.cell? ⟨w.heap.size,6,none⟩=some (.int .u64 (f 5)):=HV2.out.s2.cell 6
      have a7:W2.cell? ⟨w.heap.size,7,none⟩=some (.int .u64 (f 6)):=HV2.out.s2.cell 7
      have a8:W2.cell? ⟨w.heap.size,8,none⟩=some (.int .u64 (f 7)):=HV2.out.s2.cell 8
      have la:=HV2.out.s2.lt
      have fa:=HV2.out.s2.free 0
      have b0:W2.cell? ⟨w.heap.size+1,0,none⟩=some (.slice (some ⟨gx,ox,none⟩) code.length d):=HV2.out.s3.cell 0
      have b1:W2.cell? ⟨w.heap.size+1,1,none⟩=some (.int .i64 b):=HV2.out.s3.cell 1
      have lb:=HV2.out.s3.lt
      have x0:W2.cell? ⟨g6,0,none⟩=some (.int .u8 x.kind):=HX2.out.cell 0
      have x1:W2.cell? ⟨g6,1,none⟩=some (.int .u8 x.reg):=HX2.out.cell 1
      have x2:W2.cell? ⟨g6,2,none⟩=some (.int .u8 x.mode):=HX2.out.cell 2
      have x3:W2.cell? ⟨g6,3,none⟩=some (.int .i64 x.loc):=HX2.out.cell 3
      have x4:W2.cell? ⟨g6,4,none⟩=some (.pointer pa):=HX2.out.cell 4
      have x5:W2.cell? ⟨g6,5,none⟩=some (.pointer pb):=HX2.out.cell 5
      have x6:W2.cell? ⟨g6,6,none⟩=some (.int .i64 x.next):=HX2.out.cell 6
      have x7:W2.cell? ⟨g6,7,none⟩=some (.int .i64 x.els):=HX2.out.cell 7
      have lx:=HX2.out.lt
      by_cases h1:x.kind=1
      · have e1:((x.kind:Int) == 1)=true:=by rw [h1];rfl
        have HR2:Hid (runF code m (setS ⟨k,f⟩ x)=tgt):=Lib.hid (by rw [<- HR1.out,if_pos h1])
        have HVA:=Lib.hid (fun W h=>value_any ⟨k,f⟩ H64.out x.a HOK.out.1 (.pointer pa) W h)
        have HVA:Hid (∀ W,Tree W (trO x.a) (.pointer pa)->Calls Tryz.prog 48 #[stV ⟨k,f⟩,.pointer pa] W (Made (.returned (.int .u64 (valF f x.a))) W)):=HVA
        have H642:Hid (Reg64 (putR f x.reg (valF f x.a))):=Lib.hid (putR_64 H64.out _ (val64 H64.out _ HOK.out.1))
        have HP:=Lib.hid (fun n W (h:StB w.heap.size ⟨k,f⟩ W)=>put_reg ⟨k,f⟩ x.reg n w.heap.size W h)
        have HZ:Hid (setS ⟨k,f⟩ x=⟨x.next,putR f x.reg (valF f x.a)⟩):=Lib.hid rfl
        rw [HZ.out] at HR2
        generalize valF f x.a=z at HVA HZ H642 HR2
        clear h1 HR1 HZ
        go_upto_region 8 with (fail)
        clear a0 a1 a2 a3 a4 a5 a6 a7 a8 la fa b0 b1 lb x0 x1 x2 x3 x4 x5 x6 x7 lx
        refine Flow.wp_flowG [30,31,32,33,34,35] [Flow.eqV (.pointer (some ⟨g6,1,none⟩)),Flow.eqV (.int .u8 x.reg),Flow.eqV (stV ⟨k,f⟩),Flow.eqV (.pointer (some ⟨g6,4,none⟩)),Flow.eqV (.pointer pa),Flow.eqV (.int .u64 z)]
          (by kernel_rfl) (by kernel_rfl) (by kernel_rfl) (by kernel_rfl) (by rfl) (by simp only [List.mem_cons,List.not_mem_nil,or_false,forall_eq_or_imp,forall_eq];refine ⟨?_,?_,?_,?_,?_,?_⟩ <;> exact Flow.eqV_mono _) ?_ ?_
        · intro i o hi ho A W hW hk he
          simp only [List.length_cons,List.length_nil,Nat.zero_add,Nat.reduceAdd] at hi
          have HVW:=Lib.hid (HV2.out.grown hW)
          have hxw:=HX2.out.below hW HX2.out.lt
          have hTW:=HT2.out.below hW
          have a0:W.cell? ⟨w.heap.size,0,none⟩=some (.int .i64 k):=HVW.out.s2.cell 0
          have a1:W.cell? ⟨w.heap.size,1,none⟩=some (.int .u64 (f 0)):=HVW.out.s2.cell 1
          have a2:W.cell? ⟨w.heap.size,2,none⟩=some (.int .u64 (f 1)):=HVW.out.s2.cell 2
          have a3:W.cell? ⟨w.heap.size,3,none⟩=some (.int .u64 (f 2)):=HVW.out.s2.cell 3
          have a4:W.cell? ⟨w.heap.size,4,none⟩=some (.int .u64 (f 3)):=HVW.out.s2.cell 4
          have a5:W.cell? ⟨w.heap.size,5,none⟩=some (.int .u64 (f 4)):=HVW.out.s2.cell 5
          have a6:W.cell? ⟨w.heap.size,6,none⟩=some (.int .u64 (f 5)):=HVW.out.s2.cell 6
          have a7:W.cell? ⟨w.heap.size,7,none⟩=some (.int .u64 (f 6)):=HVW.out.s2.cell 7
          have a8:W.cell? ⟨w.heap.size,8,none⟩=some (.int .u64 (f 7)):=HVW.out.s2.cell 8
          have la:=HVW.out.s2.lt
          have fa:=HVW.out.s2.free 0
          have b0:W.cell? ⟨w.heap.size+1,0,none⟩=some (.slice (some ⟨gx,ox,none⟩) code.length d):=HVW.out.s3.cell 0
          have b1:W.cell? ⟨w.heap.size+1,1,none⟩=some (.int .i64 b):=HVW.out.s3.cell 1
          have lb:=HVW.out.s3.lt
          have x0:W.cell? ⟨g6,0,none⟩=some (.int .u8 x.kind):=hxw.cell 0
          have x1:W.cell? ⟨g6,1,none⟩=some (.int .u8 x.reg):=hxw.cell 1
          have x2:W.cell? ⟨g6,2,none⟩=some (.int .u8 x.mode):=hxw.cell 2
          have x3:W.cell? ⟨g6,3,none⟩=some (.int .i64 x.loc):=hxw.cell 3
          have x4:W.cell? ⟨g6,4,none⟩=some (.pointer pa):=hxw.cell 4
          have x5:W.cell? ⟨g6,5,none⟩=some (.pointer pb):=hxw.cell 5
          have x6:W.cell? ⟨g6,6,none⟩=some (.int .i64 x.next):=hxw.cell 6
          have x7:W.cell? ⟨g6,7,none⟩=some (.int .i64 x.els):=hxw.cell 7
          have lx:=hxw.lt
          clear hxw
          obtain rfl | rfl | rfl | rfl | rfl | rfl:i=0 \/ i=1 \/ i=2 \/ i=3 \/ i=4 \/ i=5:=by omega
          · injection ho with ho;subst ho
            refine .inl ⟨Flow.wanted_free rfl,?_⟩
            have t6:A.tmps[6]?.getD undef = .pointer (some ⟨g6,0,none⟩):=hk 6 (by rfl)
            go_simp
            exact ⟨rfl,Below.refl _ _⟩
          · injection ho with ho;subst ho
            refine .inl ⟨Flow.wanted_free rfl,?_⟩
            have t30:A.tmps[30]?.getD undef = .pointer (some ⟨g6,1,none⟩):=he 0 (by kernel_rfl)
            go_simp
            exact ⟨rfl,Below.refl _ _⟩
          · injection ho with ho;subst ho
            refine .inl ⟨Flow.wanted_free rfl,?_⟩
            have t2:A.tmps[2]?.getD undef = .pointer (some ⟨w.heap.size,0,none⟩):=hk 2 (by rfl)
            go_simp
            exact ⟨rfl,Below.refl _ _⟩
          · injection ho with ho;subst ho
            refine .inl ⟨Flow.wanted_free rfl,?_⟩
            have t6:A.tmps[6]?.getD undef = .pointer (some ⟨g6,0,none⟩):=hk 6 (by rfl)
            go_simp
            exact ⟨rfl,Below.refl _ _⟩
          · injection ho with ho;subst ho
            refine .inl ⟨Flow.wanted_free rfl,?_⟩
            have t33:A.tmps[33]?.getD undef = .pointer (some ⟨g6,4,none⟩):=he 3 (by kernel_rfl)
            go_simp
            exact ⟨rfl,Below.refl _ _⟩
          · injection ho with ho;subst ho
            refine .inl ⟨Flow.wanted_free rfl,?_⟩
            have t32:A.tmps[32]?.getD undef=stV ⟨k,f⟩:=he 2 (by kernel_rfl)
            have t34:A.tmps[34]?.getD undef = .pointer pa:=he 4 (by kernel_rfl)
            clear a0 a1 a2 a3 a4 a5 a6 a7 a8 la fa b0 b1 lb x0 x1 x2 x3 x4 x5 x6 x7 lx
            go_simp
            refine Calls.mono (HVA.out W hTW) ?_
            rintro e' w' ⟨rfl,hb⟩
            exact ⟨_,rfl,rfl,hb⟩
        · intro xs W hW hV
          have e0:xs 0 = .pointer (some ⟨g6,1,none⟩):=hV 0 (by simp)
          have e1:xs 1 = .int .u8 x.reg:=hV 1 (by simp)
          have e2:xs 2=stV ⟨k,f⟩:=hV 2 (by simp)
          have e3:xs 3 = .pointer (some ⟨g6,4,none⟩):=hV 3 (by simp)
          have e4:xs 4 = .pointer pa:=hV 4 (by simp)
          have e5:xs 5 = .int .u64 z:=hV 5 (by simp)
          have HV3:=Lib.hid (HV2.out.grown hW)
          have HX3:=Lib.hid (HX2.out.below hW HX2.out.lt)
          simp only [List.length_cons,List.length_nil,Nat.zero_add,Nat.reduceAdd,List.drop_succ_cons,List.drop_zero,Flow.putL,Act.put,List.setIfInBounds_toArray,List.set_cons_zero,List.set_cons_succ,e0,e1,e2,e3,e4,e5]
          clear hV hW e0 e1 e2 e3 e4 e5
          go_wp2_with fail
          refine (HP.out z W HV3.out.s2).mono ?_
          rintro e W4 ⟨rfl,hs,hkp⟩
          have HV4:=Lib.hid (HV3.out.put hs hkp)
          have HX4:=Lib.hid (HX3.out.keep hkp (by omega))
          clear hs hkp
          have la:=HV4.out.s2.lt
          have fa:=HV4.out.s2.free 0
          have a0:W4.cell? ⟨w.heap.size,0,none⟩=some (.int .i64 k):=HV4.out.s2.cell 0
          have x0:W4.cell? ⟨g6,0,none⟩=some (.int .u8 x.kind):=HX4.out.cell 0
          have x1:W4.cell? ⟨g6,1,none⟩=some (.int .u8 x.reg):=HX4.out.cell 1
          have x2:W4.cell? ⟨g6,2,none⟩=some (.int .u8 x.mode):=HX4.out.cell 2
          have x3:W4.cell? ⟨g6,3,none⟩=some (.int .i64 x.loc):=HX4.out.cell 3
          have x4:W4.cell? ⟨g6,4,none⟩=some (.pointer pa):=HX4.out.cell 4
          have x5:W4.cell? ⟨g6,5,none⟩=some (.pointer pb):=HX4.out.cell 5
          have x6:W4.cell? ⟨g6,6,none⟩=some (.int .i64 x.next):=HX4.out.cell 6
          have x7:W4.cell? ⟨g6,7,none⟩=some (.int .i64 x.els):=HX4.out.cell 7
          have lx:=HX4.out.lt
          go_wp2_with fail
          go_step3
          exact .inl ⟨rfl,m,by omega,⟨⟨x.next,putR f x.reg z⟩,rfl,rfl,rfl,rfl,rfl,rfl,by omega,H642.out,HR2.out,HV4.out.go x.next⟩⟩
      · have e1:((x.kind:Int) == 1)=false:=nbeq h1
        by_cases h8:x.kind=8
        · have e8:((x.kind:Int) == 8)=true:=by rw [h8];rfl
          have HR2:Hid (runF code m (goS ⟨k,f⟩ x)=tgt):=Lib.hid (by rw [<- HR1.out,if_neg h1,if_pos h8])
          have HVA:Hid (∀ W,Tree W (trO x.a) (.pointer pa)->Calls Tryz.prog 48 #[stV ⟨x.next,f⟩,.pointer pa] W (Made (.returned (.int .u64 (valF f x.a))) W)):=Lib.hid (fun W h=>value_any ⟨x.next,f⟩ H64.out x.a HOK.out.1 (.pointer pa) W h)
          have HZ:Hid (goS ⟨k,f⟩ x=⟨if valF f x.a=0 then x.els else x.next,f⟩):=Lib.hid rfl
          rw [HZ.out] at HR2
          generalize valF f x.a=z at HVA HZ HR2
          clear h1 h8 HR1 HZ
          go_upto_region 11 with (fail)
          go_upto_region 12 with (fail)
          have HV3:=Lib.hid (HV2.out.go x.next)
          have HX3:=Lib.hid (HX2.out.far (show g6≠w.heap.size by omega) (.int .i64 x.next) (p:=⟨w.heap.size,0,none⟩))
          have HT3:=Lib.hid (HT2.out.stable (fun g cs hs=>hs.far (hs.differ HV2.out.s2 (by decide)) (.int .i64 x.next) (p:=⟨w.heap.size,0,none⟩)))
          generalize W2.setCell ⟨w.heap.size,0,none⟩ (.int .i64 x.next)=W3 at HV3 HX3 HT3 ⊢
          clear a0 a1 a2 a3 a4 a5 a6 a7 a8 la fa b0 b1 lb x0 x1 x2 x3 x4 x5 x6 x7 lx
          have a0:W3.cell? ⟨w.heap.size,0,none⟩=some (.int .i64 x.next):=HV3.out.s2.cell 0
          have a1:W3.cell? ⟨w.heap.size,1,none⟩=some (.int .u64 (f 0)):=HV3.out.s2.cell 1
          have a2:W3.cell? ⟨w.heap.size,2,none⟩=some (.int .u64 (f 1)):=HV3.out.s2.cell 2
          have a3:W3.cell? ⟨w.heap.size,3,none⟩=some (.int .u64 (f 2)):=HV3.out.s2.cell 3
          have a4:W3.cell? ⟨w.heap.size,4,none⟩=some (.int .u64 (f 3)):=HV3.out.s2.cell 4
          have a5:W3.cell? ⟨w.heap.size,5,none⟩=some (.int .u64 (f 4)):=HV3.out.s2.cell 5
          have a6:W3.cell? ⟨w.heap.size,6,none⟩=some (.int .u64 (f 5)):=HV3.out.s2.cell 6
          have a7:W3.cell? ⟨w.heap.size,7,none⟩=some (.int .u64 (f 6)):=HV3.out.s2.cell 7
          have a8:W3.cell? ⟨w.heap.size,8,none⟩=some (.int .u64 (f 7)):=HV3.out.s2.cell 8
          have la:=HV3.out.s2.lt
          have fa:=HV3.out.s2.free 0
          have b0:W3.cell? ⟨w.heap.size+1,0,none⟩=some (.slice (some ⟨gx,ox,none⟩) code.length d):=HV3.out.s3.cell 0
          have b1:W3.cell? ⟨w.heap.size+1,1,none⟩=some (.int .i64 b):=HV3.out.s3.cell 1
          have lb:=HV3.out.s3.lt
          have x0:W3.cell? ⟨g6,0,none⟩=some (.int .u8 x.kind):=HX3.out.cell 0
          have x1:W3.cell? ⟨g6,1,none⟩=some (.int .u8 x.reg):=HX3.out.cell 1
          have x2:W3.cell? ⟨g6,2,none⟩=some (.int .u8 x.mode):=HX3.out.cell 2
          have x3:W3.cell? ⟨g6,3,none⟩=some (.int .i64 x.loc):=HX3.out.cell 3
          have x4:W3.cell? ⟨g6,4,none⟩=some (.pointer pa):=HX3.out.cell 4
          have x5:W3.cell? ⟨g6,5,none⟩=some (.pointer pb):=HX3.out.cell 5
          have x6:W3.cell? ⟨g6,6,none⟩=some (.int .i64 x.next):=HX3.out.cell 6
          have x7:W3.cell? ⟨g6,7,none⟩=some (.int .i64 x.els):=HX3.out.cell 7
          have lx:=HX3.out.lt
          go_wp2_with fail
          refine (HVA.out W3 HT3.out).mono ?_
          rintro e W4 ⟨rfl,hb⟩
          have HV4:=Lib.hid (HV3.out.grown hb)
          have HX4:=Lib.hid (HX3.out.below hb HX3.out.lt)
          clear a0 a1 a2 a3 a4 a5 a6 a7 a8 la fa b0 b1 lb x0 x1 x2 x3 x4 x5 x6 x7 lx hb
          have a0:W4.cell? ⟨w.heap.size,0,none⟩=some (.int .i64 x.next):=HV4.out.s2.cell 0
          have a1:W4.cell? ⟨w.heap.size,1,none⟩=some (.int .u64 (f 0)):=HV4.out.s2.cell 1
          have a2:W4.cell? ⟨w.heap.size,2,none⟩=some (.int .u64 (f 1)):=HV4.out.s2.cell 2
          have a3:W4.cell? ⟨w.heap.size,3,none⟩=some (.int .u64 (f 2)):=HV4.out.s2.cell 3
          have a4:W4.cell? ⟨w.heap.size,4,none⟩=some (.int .u64 (f 3)):=HV4.out.s2.cell 4
          have a5:W4.cell? ⟨w.heap.size,5,none⟩=some (.int .u64 (f 4)):=HV4.out.s2.cell 5
          have a6:W4.cell? ⟨w.heap.size,6,none⟩=some (.int .u64 (f 5)):=HV4.out.s2.cell 6
          have a7:W4.cell? ⟨w.heap.size,7,none⟩=some (.int .u64 (f 6)):=HV4.out.s2.cell 7
          have a8:W4.cell? ⟨w.heap.size,8,none⟩=some (.int .u64 (f 7)):=HV4.out.s2.cell 8
          have la:=HV4.out.s2.lt
          have fa:=HV4.out.s2.free 0
          have b0:W4.cell? ⟨w.heap.size+1,0,none⟩=some (.slice (some ⟨gx,ox,none⟩) code.length d):=HV4.out.s3.cell 0
          have b1:W4.cell? ⟨w.heap.size+1,1,none⟩=some (.int .i64 b):=HV4.out.s3.cell 1
          have lb:=HV4.out.s3.lt
          have x0:W4.cell? ⟨g6,0,none⟩=some (.int .u8 x.kind):=HX4.out.cell 0
          have x1:W4.cell? ⟨g6,1,none⟩=some (.int .u8 x.reg):=HX4.out.cell 1
          have x2:W4.cell? ⟨g6,2,none⟩=some (.int .u8 x.mode):=HX4.out.cell 2
          have x3:W4.cell? ⟨g6,3,none⟩=some (.int .i64 x.loc):=HX4.out.cell 3
          have x4:W4.cell? ⟨g6,4,none⟩=some (.pointer pa):=HX4.out.cell 4
          have x5:W4.cell? ⟨g6,5,none⟩=some (.pointer pb):=HX4.out.cell 5
          have x6:W4.cell? ⟨g6,6,none⟩=some (.int .i64 x.next):=HX4.out.cell 6
          have x7:W4.cell? ⟨g6,7,none⟩=some (.int .i64 x.els):=HX4.out.cell 7
          have lx:=HX4.out.lt
          by_cases hz:z=0
          · have ez:(z == 0)=true:=by rw [hz];rfl
            rw [if_pos hz] at HR2
            clear hz
            go_wp2_with fail
            go_step3
            exact .inl ⟨rfl,m,by omega,⟨⟨x.els,f⟩,rfl,rfl,rfl,rfl,rfl,rfl,by omega,H64.out,HR2.out,HV4.out.go x.els⟩⟩
          · have ez:(z == 0)=false:=beq_eq_false_iff_ne.2 hz
            rw [if_neg hz] at HR2
            clear hz
            go_wp2_with fail
            go_step3
            exact .inl ⟨rfl,m,by omega,⟨⟨x.next,f⟩,rfl,rfl,rfl,rfl,rfl,rfl,by omega,H64.out,HR2.out,HV4.out⟩⟩
        · have e8:((x.kind:Int) == 8)=false:=nbeq h8
          have HR2:Hid (⟨k,f⟩=tgt):=Lib.hid (by rw [<- HR1.out,if_neg h1,if_neg h8])
          clear h1 h8 HR1
          go_wp2_with (refine wpList_store_row rfl 52 _ _ rfl (w.heap.size+2) (stC ⟨k,f⟩) rfl rfl 52 _ HV2.out.s4 stSize rfl (st_one _) ?_)
          refine bodyPost_ret (v:=stV ⟨k,f⟩) (result_st Tryz.results46 rfl (setRow_heap _ _ _ _ _ _ HV2.out.s4)) rfl ⟨?_,row_low' HV2.out.low (by omega) _⟩
          rw [HR2.out]
  · intro hpass
    go_wp2_with fail
    go_step3
    refine (by assumption:∀ (a:Act) (w:World),_->_) _ _ ?_
    exact hpass _ _ _ ⟨⟨i,f⟩,rfl,rfl,rfl,rfl,rfl,rfl,HL.out,H64.out,HT.out,HS.out⟩
end Go.Proofs.YtagebkachdmnbaaGreatDoor.Thr
end
