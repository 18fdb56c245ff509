/- Part 40 of the proof: what is used of the texts ThrD. -/
import Derived.Test.YtagebkachdmnbaaGreatDoorMD8
section
namespace Go.Proofs.YtagebkachdmnbaaGreatDoor.Thr
open Go.RowKit Go.Shelf Go.Proofs.YtagebkachdmnbaaGreatDoor.Mem Go.Proofs.YtagebkachdmnbaaGreatDoor.Expr Go.Proofs.YtagebkachdmnbaaGreatDoor.Prog Go.Proofs.YtagebkachdmnbaaGreatDoor.Row Go.Proofs.YtagebkachdmnbaaGreatDoor.Unr Go.Lib
set_option maxHeartbeats 8000000 in
set_option maxRecDepth 100000 in
theorem begin_any (code:List In) (hl:code.length<=32) (hI:∀ x ∈ code,okI x) (r:Option Addr) (d:Nat) (b:Int) (w:World) (hC:CodV w r code) :
    Calls Tryz.prog 12 #[thV r code.length d b] w (Made (.returned (stV (beginF code b))) w):=by
  have HR:Hid (∀ W,Below w.heap.size w W->Calls Tryz.prog 46 #[.agg #[.int .i64 b,.int .u64 0,.int .u64 0,.int .u64 0,.int .u64 0,.int .u64 0,.int .u64 0,.int .u64 0,.int .u64 0],thV r code.length d b] W (Made (.returned (stV (beginF code b))) W)) :=
    Lib.hid (fun W h=>run_any code hl hI r d b ⟨b,fun _=>0⟩ (fun _=>⟨show (0:Int)<=0 by decide,show (0:Int)<18446744073709551616 by decide⟩) W (hC.below h))
  have hstart:Below w.heap.size w ((w.alloc (.cells #[.slice r code.length d,.int .i64 b] 44)).alloc (.cells stZ 52)):=((Below.refl _ _).alloc (Nat.le_refl _) _).alloc (by simp) _
  have HS:=Lib.hid hstart
  have H4:Hid (Sits ((w.alloc (.cells #[.slice r code.length d,.int .i64 b] 44)).alloc (.cells stZ 52)) (w.heap.size+1) 52 stZ):=Lib.hid (Sits.made (by simp) _ _)
  generalize beginF code b=st at HR ⊢
  generalize code.length=n at HR HS H4 ⊢
  clear hstart hl hI hC
  obtain ⟨i,f⟩:=st
  go_enter Tryz.func12,Tryz.ntmps12
  go_wp2_with fail
  refine (HR.out _ HS.out).mono ?_
  rintro e W ⟨rfl,hb⟩
  have HB:=Lib.hid (HS.out.trans (hb.mono HS.out.size))
  have H4':=Lib.hid (H4.out.below hb H4.out.lt)
  clear hb
  go_wp2_with (refine wpList_store_row rfl 52 _ _ rfl (w.heap.size+1) (stC ⟨i,f⟩) rfl rfl 52 _ H4'.out stSize rfl (st_one _) ?_)
  exact bodyPost_ret (v:=stV ⟨i,f⟩) (result_st Tryz.results12 rfl (setRow_heap _ _ _ _ _ _ H4'.out)) rfl ⟨rfl,row_low' HB.out (by omega) _⟩
abbrev acZ:Array Value:=#[.int .u8 0,.int .u8 0,.int .i64 0,.int .u64 0,.int .u64 0]
abbrev nextR:Option Ac->Value
  | none => .tuple #[.agg acZ,.bool false]
  | some a => .tuple #[acV a,.bool true]
theorem acSize:(Tryz.prog.info? 57).map (·.size)=some 5:=by kernel_rfl
theorem ac_one (k m:Int) (l a b:Int):(#[.int .u8 k,.int .u8 m,.int .i64 l,.int .u64 a,.int .u64 b]:Array Value).all (·.oneCell')=true:=by simp [Value.oneCell']
theorem result_ab {fn:Func} {p q:Tmp} (h:fn.results=#[.cell p 57,.tmp q]) {T:Array Value} {W:World} {g:Nat} {cs:Array Value} {b:Bool} (hz:cs.size=5) (hp:T.getD p undef = .pointer (some ⟨g,0,none⟩)) (hq:T.getD q undef = .bool b) (hs:Sits W g 57 cs) :
    (results fn T).run Tryz.prog W = .ok (.tuple #[.agg cs,.bool b]) W:=by
  have hl:=run_loadVar_row (P:=Tryz.prog) W g 57 57 cs (0,0) _ hs Tryz.underlying57 rfl (by rw [hz];exact acSize)
  have hp':T[p]?.getD undef = .pointer (some ⟨g,0,none⟩):=by simpa using hp
  have hq':T[q]?.getD undef = .bool b:=by simpa using hq
  simp [results,h,hp',hq',asAddr,hl]
structure NextV (w:World) (r:Option Addr) (n d:Nat) (b:Int) (s:St) (W:World):Prop where
  s2:Sits W w.heap.size 44 #[.slice r n d,.int .i64 b]
  s3:StB (w.heap.size+1) s W
  s4:Sits W (w.heap.size+2) 57 acZ
  low:Below w.heap.size w W
theorem NextV.grown {w W W':World} {r:Option Addr} {n d:Nat} {b:Int} {s:St} (h:NextV w r n d b s W) (hb:Below W.heap.size W W'):NextV w r n d b s W' :=
  ⟨h.s2.below hb h.s2.lt,h.s3.below hb h.s3.lt,h.s4.below hb h.s4.lt,h.low.trans (hb.mono h.low.size)⟩
set_option maxHeartbeats 8000000 in
set_option maxRecDepth 100000 in
theorem next_any (code:List In) (hl:code.length<=32) (hI:∀ x ∈ code,okI x) (r:Option Addr) (d:Nat) (b:Int) (s:St) (h64:Reg64 s.r) (w:World) (hC:CodV w r code) :
    Calls Tryz.prog 14 #[thV r code.length d b,stV s] w (Made (.returned (nextR (nextF code s))) w):=by
  have HC:=Lib.hid hC
  have HI:=Lib.hid hI
  have HL:=Lib.hid hl
  have H64:=Lib.hid h64
  have hstart:NextV w r code.length d b s (((w.alloc (.cells #[.slice r code.length d,.int .i64 b] 44)).alloc (.cells (stC s) 52)).alloc (.cells acZ 57)):=by
    refine ⟨((Sits.new w _ _).alloc _).alloc _,(Sits.made (by simp) _ _).alloc _,Sits.made (by simp) _ _,(((Below.refl _ _).alloc (Nat.le_refl _) _).alloc (by simp) _).alloc (by simp;omega) _⟩
  have HV:=Lib.hid hstart
  clear hC hI hl h64 hstart
  obtain ⟨i,f⟩:=s
  have HE:Hid (∀ W,Calls Tryz.prog 20 #[thV r code.length d b,stV ⟨i,f⟩] W (Made (.returned (.bool (endF code.length i))) W)):=Lib.hid (fun W=>ended_any r code.length d b ⟨i,f⟩ W)
  show Calls _ _ #[_,.agg #[.int .i64 i,.int .u64 (f 0),.int .u64 (f 1),.int .u64 (f 2),.int .u64 (f 3),.int .u64 (f 4),.int .u64 (f 5),.int .u64 (f 6),.int .u64 (f 7)]] _ _
  have HNX:Hid (nextF code ⟨i,f⟩=match atI code i with | none=>none | some x=>if x.kind<2 \/ 7<x.kind then none else some (acOf f x)):=Lib.hid rfl
  generalize nextF code ⟨i,f⟩=res at HNX ⊢
  go_enter Tryz.func14,Tryz.ntmps14
  cases hend:endF code.length i with
  | true =>
    rw [hend] at HE
    have HN:Hid (res=none):=Lib.hid (by rw [HNX.out,end_not hend])
    clear hend HNX
    go_wp2_with fail
    refine (HE.out _).mono ?_
    rintro e W1 ⟨rfl,hb⟩
    have HV1:=Lib.hid (HV.out.grown hb)
    clear hb
    go_wp2_with (refine wpList_store_row rfl 57 _ _ rfl (w.heap.size+2) acZ rfl rfl 57 _ HV1.out.s4 acSize rfl (ac_one _ _ _ _ _) ?_)
    rw [HN.out]
    exact bodyPost_ret (v:=.tuple #[.agg acZ,.bool false]) (result_ab Tryz.results14 rfl rfl rfl (setRow_heap _ _ _ _ _ _ HV1.out.s4)) rfl ⟨rfl,row_low' HV1.out.low (by omega) _⟩
  | false =>
    rw [hend] at HE
    obtain ⟨k,x,hik,hx,hat⟩:=end_at hend
    have HR1:Hid (res=if x.kind<2 \/ 7<x.kind then none else some (acOf f x)):=Lib.hid (by rw [HNX.out,hat])
    subst hik
    have HX:=Lib.hid hx
    have HK:Hid (k<code.length):=Lib.hid (List.getElem?_eq_some_iff.1 hx).1
    have kl:(k:Int)<(code.length:Int):=by have:=HK.out;omega
    have HOK:=Lib.hid (HI.out x (List.mem_of_getElem? hx))
    clear hend hx hat HNX
    go_wp2_with fail
    refine (HE.out _).mono ?_
    rintro e W1 ⟨rfl,hb⟩
    have HV1:=Lib.hid (HV.out.grown hb)
    obtain ⟨gx,ox,pa,pb,hr,hgx,hta,htb,hcx⟩:=(HC.out.below HV1.out.low).at_ HX.out
    subst hr
    have HTA:=Lib.hid hta
    have HTB:=Lib.hid htb
    clear hb htb hta
    have b0:W1.cell? ⟨w.heap.size,0,none⟩=some (.slice (some ⟨gx,ox,none⟩) code.length d):=HV1.out.s2.cell 0
    have b1:W1.cell? ⟨w.heap.size,1,none⟩=some (.int .i64 b):=HV1.out.s2.cell 1
    have lb:=HV1.out.s2.lt
    have a0:W1.cell? ⟨w.heap.size+1,0,none⟩=some (.int .i64 k):=HV1.out.s3.cell 0
    have a1:W1.cell? ⟨w.heap.size+1,1,none⟩=some (.int .u64 (f 0)):=HV1.out.s3.cell 1
    have a2:W1.cell? ⟨w.heap.size+1,2,none⟩=some (.int .u64 (f 1)):=HV1.out.s3.cell 2
    have a3:W1.cell? ⟨w.heap.size+1,3,none⟩=some (.int .u64 (f 2)):=HV1.out.s3.cell 3
    have a4:W1.cell? ⟨w.heap.size+1,4,none⟩=some (.int .u64 (f 3)):=HV1.out.s3.cell 4
    have a5:W1.cell? ⟨w.heap.size+1,5,none⟩=some (.int .u64 (f 4)):=HV1.out.s3.cell 5
    have a6:W1.cell? ⟨w.heap.size+1,6,none⟩=some (.int .u64 (f 5)):=HV1.out.s3.cell 6
    have a7:W1.cell? ⟨w.heap.size+1,7,none⟩=some (.int .u64 (f 6)):=HV1.out.s3.cell 7
    have a8:W1.cell? ⟨w.heap.size+1,8,none⟩=some (.int .u64 (f 7)):=HV1.out.s3.cell 8
    have la:=HV1.out.s3.lt
    have x0:W1.cell? ⟨gx,ox+k * 8,none⟩=some (.int .u8 x.kind):=hcx 0 (by omega)
    have x1:W1.cell? ⟨gx,ox+k * 8+1,none⟩=some (.int .u8 x.reg):=hcx 1 (by omega)
    have x2:W1.cell? ⟨gx,ox+k * 8+2,none⟩=some (.int .u8 x.mode):=hcx 2 (by omega)
    have x3:W1.cell? ⟨gx,ox+k * 8+3,none⟩=some (.int .i64 x.loc):=hcx 3 (by omega)
    have x4:W1.cell? ⟨gx,ox+k * 8+4,none⟩=some (.pointer pa):=hcx 4 (by omega)
    have x5:W1.cell? ⟨gx,ox+k * 8+5,none⟩=some (.pointer pb):=hcx 5 (by omega)
    have x6:W1.cell? ⟨gx,ox+k * 8+6,none⟩=some (.int .i64 x.next):=hcx 6 (by omega)
    have x7:W1.cell? ⟨gx,ox+k * 8+7,none⟩=some (.int .i64 x.els):=hcx 7 (by omega)
    clear hcx
    go_upto_region 4 with (fail)
    have HB2:=Lib.hid (one_low W1 (.cells (inC x pa pb) 82))
    have HV2:=Lib.hid (HV1.out.grown HB2.out)
    have HX2:Hid (Sits (W1.alloc (.cells (inC x pa pb) 82)) W1.heap.size 82 (inC x pa pb)):=Lib.hid (Sits.new _ _ _)
    have HT2:=Lib.hid (HTA.out.below HB2.out)
    have HU2:=Lib.hid (HTB.out.below HB2.out)
    change Code.wp _ _ _ _ (W1.alloc (.cells (inC x pa pb) 82))
    generalize W1.alloc (.cells (inC x pa pb) 82)=W2 at HB2 HV2 HX2 HT2 HU2 ⊢
    generalize W1.heap.size=g6 at HX2 ⊢
    clear a0 a1 a2 a3 a4 a5 a6 a7 a8 la b0 b1 lb x0 x1 x2 x3 x4 x5 x6 x7 HB2 HTA HTB
    have b0:W2.cell? ⟨w.heap.size,0,none⟩=some (.slice (some ⟨gx,ox,none⟩) code.length d):=HV2.out.s2.cell 0
    have b1:W2.cell? ⟨w.heap.size,1,none⟩=some (.int .i64 b):=HV2.out.s2.cell 1
    have lb:=HV2.out.s2.lt
    have a0:W2.cell? ⟨w.heap.size+1,0,none⟩=some (.int .i64 k):=HV2.out.s3.cell 0
    have a1:W2.cell? ⟨w.heap.size+1,1,none⟩=some (.int .u64 (f 0)):=HV2.out.s3.cell 1
    have a2:W2.cell? ⟨w.heap.size+1,2,none⟩=some (.int .u64 (f 1)):=HV2.out.s3.cell 2
    have a3:W2.cell? ⟨w.heap.size+1,3,none⟩=some (.int .u64 (f 2)):=HV2.out.s3.cell 3
    have a4:W2.cell? ⟨w.heap.size+1,4,none⟩=some (.int .u64 (f 3)):=HV2.out.s3.cell 4
    have a5:W2.cell? ⟨w.heap.size+1,5,none⟩=some (.int .u64 (f 4)):=HV2.out.s3.cell 5
    have a6:W2.cell? ⟨w.heap.size+1,6,none⟩=some (.int .u64 (f 5)):=HV2.out.s3.cell 6
    have a7:W2.cell? ⟨w.heap.size+1,7,none⟩=some (.int .u64 (f 6)):=HV2.out.s3.cell 7
    have a8:W2.cell? ⟨w.heap.size+1,8,none⟩=some (.int .u64 (f 7)):=HV2.out.s3.cell 8
    have la:=HV2.out.s3.lt
    have x0:W2.cell? ⟨g6,0,none⟩=some (.int .u8 x.kind):=HX2.out.cell 0
    have x1:W2.cell? ⟨g6,1,none⟩=some (.int .u8 x.reg):=HX2.out.cell 1
    have x2:W2.cell? ⟨g6,2,none⟩=some (.int .u8 x.mode):=HX2.out.cell 2
    have x3:W2.cell? ⟨g6,3,none⟩=some (.int .i64 x.loc):=HX2.out.cell 3
    have x4:W2.cell? ⟨g6,4,none⟩=some (.pointer pa):=HX2.out.cell 4
    have x5:W2.cell? ⟨g6,5,none⟩=some (.pointer pb):=HX2.out.cell 5
    have x6:W2.cell? ⟨g6,6,none⟩=some (.int .i64 x.next):=HX2.out.cell 6
    have x7:W2.cell? ⟨g6,7,none⟩=some (.int .i64 x.els):=HX2.out.cell 7
    have lx:=HX2.out.lt
    by_cases h2:x.kind<2
    · have e2:decide ((x.kind:Int)<2)=true:=decide_eq_true (by omega)
      have HN:Hid (res=none):=Lib.hid (by rw [HR1.out,if_pos (.inl h2)])
      clear h2 HR1
      go_wp2_with (refine wpList_store_row rfl 57 _ _ rfl (w.heap.size+2) acZ rfl rfl 57 _ HV2.out.s4 acSize rfl (ac_one _ _ _ _ _) ?_)
      rw [HN.out]
      exact bodyPost_ret (v:=.tuple #[.agg acZ,.bool false]) (result_ab Tryz.results14 rfl rfl rfl (setRow_heap _ _ _ _ _ _ HV2.out.s4)) rfl ⟨rfl,row_low' HV2.out.low (by omega) _⟩
    have e2:decide ((x.kind:Int)<2)=false:=decide_eq_false (by omega)
    by_cases h7:7<x.kind
    · have e7:decide ((7:Int)<(x.kind:Int))=true:=decide_eq_true (by omega)
      have HN:Hid (res=none):=Lib.hid (by rw [HR1.out,if_pos (.inr h7)])
      clear h2 h7 HR1
      go_wp2_with (refine wpList_store_row rfl 57 _ _ rfl (w.heap.size+2) acZ rfl rfl 57 _ HV2.out.s4 acSize rfl (ac_one _ _ _ _ _) ?_)
      rw [HN.out]
      exact bodyPost_ret (v:=.tuple #[.agg acZ,.bool false]) (result_ab Tryz.results14 rfl rfl rfl (setRow_heap _ _ _ _ _ _ HV2.out.s4)) rfl ⟨rfl,row_low' HV2.out.low (by omega) _⟩
    have e7:decide ((7:Int)<(x.kind:Int))=false:=decide_eq_false (by omega)
    have HN:Hid (res=some ⟨x.kind,x.mode,x.loc,valF f x.a,valF f x.b⟩):=Lib.hid (by rw [HR1.out,if_neg (by omega)];rfl)
    clear h2 h7 HR1
    have HVA:Hid (∀ W,Tree W (trO x.a) (.pointer pa)->Calls Tryz.prog 48 #[stV ⟨k,f⟩,.pointer pa] W (Made (.returned (.int .u64 (valF f x.a))) W)):=Lib.hid (fun W h=>value_any ⟨k,f⟩ H64.out x.a HOK.out.1 (.pointer pa) W h)
    have HVB:Hid (∀ W,Tree W (trO x.b) (.pointer pb)->Calls Tryz.prog 48 #[stV ⟨k,f⟩,.pointer pb] W (Made (.returned (.int .u64 (valF f x.b))) W)):=Lib.hid (fun W h=>value_any ⟨k,f⟩ H64.out x.b HOK.out.2 (.pointer pb) W h)
    generalize valF f x.a=za at HVA HN
    generalize valF f x.b=zb at HVB HN
    go_upto_region 6 with (fail)
    clear a0 a1 a2 a3 a4 a5 a6 a7 a8 la b0 b1 lb x0 x1 x2 x3 x4 x5 x6 x7 lx
    refine Flow.wp_flowG [26,27,28,29,30,31,32,33,34,35,36,37,38,39,40] [Flow.eqV (.pointer (some ⟨g6,0,none⟩)),Flow.eqV (.int .u8 x.kind),Flow.eqV (.pointer (some ⟨g6,2,none⟩)),Flow.eqV (.int .u8 x.mode),Flow.eqV (.pointer (some ⟨g6,3,none⟩)),Flow.eqV (.int .i64 x.loc),Flow.eqV (stV ⟨k,f⟩),Flow.eqV (.pointer (some ⟨g6,4,none⟩)),Flow.eqV (.pointer pa),Flow.eqV (.int .u64 za),Flow.eqV (stV ⟨k,f⟩),Flow.eqV (.pointer (some ⟨g6,5,none⟩)),Flow.eqV (.pointer pb),Flow.eqV (.int .u64 zb),Flow.eqV (.agg #[.int .u8 x.kind,.int .u8 x.mode,.int .i64 x.loc,.int .u64 za,.int .u64 zb])]
      (by kernel_rfl) (by kernel_rfl) (by kernel_rfl) (by kernel_rfl) (by rfl) (by simp only [List.mem_cons,List.not_mem_nil,or_false,forall_eq_or_imp,forall_eq];refine ⟨?_,?_,?_,?_,?_,?_,?_,?_,?_,?_,?_,?_,?_,?_,?_⟩ <;> exact Flow.eqV_mono _) ?_ ?_
    · intro i o hi ho A W hW hk he
      simp only [List.length_cons,List.length_nil,Nat.zero_add,Nat.reduceAdd] at hi
      have HVW:=Lib.hid (HV2.out.grown hW)
      have hxw:=HX2.out.below hW HX2.out.lt
      have hTW:=HT2.out.below hW
      have hUW:=HU2.out.below hW
      have b0:W.cell? ⟨w.heap.size,0,none⟩=some (.slice (some ⟨gx,ox,none⟩) code.length d):=HVW.out.s2.cell 0
      have b1:W.cell? ⟨w.heap.size,1,none⟩=some (.int .i64 b):=HVW.out.s2.cell 1
      have lb:=HVW.out.s2.lt
      have a0:W.cell? ⟨w.heap.size+1,0,none⟩=some (.int .i64 k):=HVW.out.s3.cell 0
      have a1:W.cell? ⟨w.heap.size+1,1,none⟩=some (.int .u64 (f 0)):=HVW.out.s3.cell 1
      have a2:W.cell? ⟨w.heap.size+1,2,none⟩=some (.int .u64 (f 1)):=HVW.out.s3.cell 2
      have a3:W.cell? ⟨w.heap.size+1,3,none⟩=some (.int .u64 (f 2)):=HVW.out.s3.cell 3
      have a4:W.cell? ⟨w.heap.size+1,4,none⟩=some (.int .u64 (f 3)):=HVW.out.s3.cell 4
      have a5:W.cell? ⟨w.heap.size+1,5,none⟩=some (.int .u64 (f 4)):=HVW.out.s3.cell 5
      have a6:W.cell? ⟨w.heap.size+1,6,none⟩=some (.int .u64 (f 5)):=HVW.out.s3.cell 6
      have a7:W.cell? ⟨w.heap.size+1,7,none⟩=some (.int .u64 (f 6)):=HVW.out.s3.cell 7
      have a8:W.cell? ⟨w.heap.size+1,8,none⟩=some (.int .u64 (f 7)):=HVW.out.s3.cell 8
      have la:=HVW.out.s3.lt
      have x0:W.cell? ⟨g6,0,none⟩=some (.int .u8 x.kind):=hxw.cell 0
      have x1:W.cell? ⟨g6,1,none⟩=some (.int .u8 x.reg):=hxw.cell 1
      have x2:W.cell? ⟨g6,2,none⟩=some (.int .u8 x.mode):=hxw.cell 2
      have x3:W.cell? ⟨g6,3,none⟩=some (.int .i64 x.loc):=hxw.cell 3
      have x4:W.cell? ⟨g6,4,none⟩=some (.pointer pa):=hxw.cell 4
      have x5:W.cell? ⟨g6,5,none⟩=some (.pointer pb):=hxw.cell 5
      have x6:W.cell? ⟨g6,6,none⟩=some (.int .i64 x.next):=hxw.cell 6
      have x7:W.cell? ⟨g6,7,none⟩=some (.int .i64 x.els):=hxw.cell 7
      have lx:=hxw.lt
      clear hxw
      obtain rfl | rfl | rfl | rfl | rfl | rfl | rfl | rfl | rfl | rfl | rfl | rfl | rfl | rfl | rfl:i=0 \/ i=1 \/ i=2 \/ i=3 \/ i=4 \/ i=5 \/ i=6 \/ i=7 \/ i=8 \/ i=9 \/ i=10 \/ i=11 \/ i=12 \/ i=13 \/ i=14:=by omega
      · injection ho with ho;subst ho
        refine .inl ⟨Flow.wanted_free rfl,?_⟩
        have t6:A.tmps[6]?.getD undef = .pointer (some ⟨g6,0,none⟩):=hk 6 (by rfl)
        go_simp
        exact ⟨rfl,Below.refl _ _⟩
      · injection ho with ho;subst ho
        refine .inl ⟨Flow.wanted_free rfl,?_⟩
        have t26:A.tmps[26]?.getD undef = .pointer (some ⟨g6,0,none⟩):=he 0 (by kernel_rfl)
        go_simp
        exact ⟨rfl,Below.refl _ _⟩
      · injection ho with ho;subst ho
        refine .inl ⟨Flow.wanted_free rfl,?_⟩
        have t6:A.tmps[6]?.getD undef = .pointer (some ⟨g6,0,none⟩):=hk 6 (by rfl)
        go_simp
        exact ⟨rfl,Below.refl _ _⟩
      · injection ho with ho;subst ho
        refine .inl ⟨Flow.wanted_free rfl,?_⟩
        have t28:A.tmps[28]?.getD undef = .pointer (some ⟨g6,2,none⟩):=he 2 (by kernel_rfl)
        go_simp
        exact ⟨rfl,Below.refl _ _⟩
      · injection ho with ho;subst ho
        refine .inl ⟨Flow.wanted_free rfl,?_⟩
        have t6:A.tmps[6]?.getD undef = .pointer (some ⟨g6,0,none⟩):=hk 6 (by rfl)
        go_simp
        exact ⟨rfl,Below.refl _ _⟩
      · injection ho with ho;subst ho
        refine .inl ⟨Flow.wanted_free rfl,?_⟩
        have t30:A.tmps[30]?.getD undef = .pointer (some ⟨g6,3,none⟩):=he 4 (by kernel_rfl)
        go_simp
        exact ⟨rfl,Below.refl _ _⟩
      · injection ho with ho;subst ho
        refine .inl ⟨Flow.wanted_free rfl,?_⟩
        have t3:A.tmps[3]?.getD undef = .pointer (some ⟨w.heap.size+1,0,none⟩):=hk 3 (by rfl)
        go_simp
        exact ⟨rfl,Below.refl _ _⟩
      · injection ho with ho;subst ho
        refine .inl ⟨Flow.wanted_free rfl,?_⟩
        have t6:A.tmps[6]?.getD undef = .pointer (some ⟨g6,0,none⟩):=hk 6 (by rfl)
        go_simp
        exact ⟨rfl,Below.refl _ _⟩
      · injection ho with ho;subst ho
        refine .inl ⟨Flow.wanted_free rfl,?_⟩
        have t33:A.tmps[33]?.getD undef = .pointer (some ⟨g6,4,none⟩):=he 7 (by kernel_rfl)
        go_simp
        exact ⟨rfl,Below.refl _ _⟩
      · injection ho with ho;subst ho
        refine .inl ⟨Flow.wanted_free rfl,?_⟩
        have t32:A.tmps[32]?.getD undef=stV ⟨k,f⟩:=he 6 (by kernel_rfl)
        have t34:A.tmps[34]?.getD undef = .pointer pa:=he 8 (by kernel_rfl)
        clear a0 a1 a2 a3 a4 a5 a6 a7 a8 la b0 b1 lb x0 x1 x2 x3 x4 x5 x6 x7 lx
        go_simp
        refine Calls.mono (HVA.out W hTW) ?_
        rintro e' w' ⟨rfl,hb⟩
        exact ⟨_,rfl,rfl,hb⟩
      · injection ho with ho;subst ho
        refine .inl ⟨Flow.wanted_free rfl,?_⟩
        have t3:A.tmps[3]?.getD undef = .pointer (some ⟨w.heap.size+1,0,none⟩):=hk 3 (by rfl)
        go_simp
        exact ⟨rfl,Below.refl _ _⟩
      · injection ho with ho;subst ho
        refine .inl ⟨Flow.wanted_free rfl,?_⟩
        have t6:A.tmps[6]?.getD undef = .pointer (some ⟨g6,0,none⟩):=hk 6 (by rfl)
        go_simp
        exact ⟨rfl,Below.refl _ _⟩
      · injection ho with ho;subst ho
        refine .inl ⟨Flow.wanted_free rfl,?_⟩
        have t37:A.tmps[37]?.getD undef = .pointer (some ⟨g6,5,none⟩):=he 11 (by kernel_rfl)
        go_simp
        exact ⟨rfl,Below.refl _ _⟩
      · injection ho with ho;subst ho
        refine .inl ⟨Flow.wanted_free rfl,?_⟩
        have t36:A.tmps[36]?.getD undef=stV ⟨k,f⟩:=he 10 (by kernel_rfl)
        have t38:A.tmps[38]?.getD undef = .pointer pb:=he 12 (by kernel_rfl)
        clear a0 a1 a2 a3 a4 a5 a6 a7 a8 la b0 b1 lb x0 x1 x2 x3 x4 x5 x6 x7 lx
        go_simp
        refine Calls.mono (HVB.out W hUW) ?_
        rintro e' w' ⟨rfl,hb⟩
        exact ⟨_,rfl,rfl,hb⟩
      · injection ho with ho;subst ho
        refine .inl ⟨Flow.wanted_free rfl,?_⟩
        have t27:A.tmps[27]?.getD undef = .int .u8 x.kind:=he 1 (by kernel_rfl)
        have t29:A.tmps[29]?.getD undef = .int .u8 x.mode:=he 3 (by kernel_rfl)
        have t31:A.tmps[31]?.getD undef = .int .i64 x.loc:=he 5 (by kernel_rfl)
        have t35:A.tmps[35]?.getD undef = .int .u64 za:=he 9 (by kernel_rfl)
        have t39:A.tmps[39]?.getD undef = .int .u64 zb:=he 13 (by kernel_rfl)
        go_simp
        exact ⟨rfl,Below.refl _ _⟩
    · intro xs W hW hV
      have q0:xs 0 = .pointer (some ⟨g6,0,none⟩):=hV 0 (by simp)
      have q1:xs 1 = .int .u8 x.kind:=hV 1 (by simp)
      have q2:xs 2 = .pointer (some ⟨g6,2,none⟩):=hV 2 (by simp)
      have q3:xs 3 = .int .u8 x.mode:=hV 3 (by simp)
      have q4:xs 4 = .pointer (some ⟨g6,3,none⟩):=hV 4 (by simp)
      have q5:xs 5 = .int .i64 x.loc:=hV 5 (by simp)
      have q6:xs 6=stV ⟨k,f⟩:=hV 6 (by simp)
      have q7:xs 7 = .pointer (some ⟨g6,4,none⟩):=hV 7 (by simp)
      have q8:xs 8 = .pointer pa:=hV 8 (by simp)
      have q9:xs 9 = .int .u64 za:=hV 9 (by simp)
      have q10:xs 10=stV ⟨k,f⟩:=hV 10 (by simp)
      have q11:xs 11 = .pointer (some ⟨g6,5,none⟩):=hV 11 (by simp)
      have q12:xs 12 = .pointer pb:=hV 12 (by simp)
      have q13:xs 13 = .int .u64 zb:=hV 13 (by simp)
      have q14:xs 14 = .agg #[.int .u8 x.kind,.int .u8 x.mode,.int .i64 x.loc,.int .u64 za,.int .u64 zb]:=hV 14 (by simp)
      have HV3:=Lib.hid (HV2.out.grown hW)
      simp only [List.length_cons,List.length_nil,Nat.zero_add,Nat.reduceAdd,List.drop_succ_cons,List.drop_zero,Flow.putL,Act.put,List.setIfInBounds_toArray,List.set_cons_zero,List.set_cons_succ,q0,q1,q2,q3,q4,q5,q6,q7,q8,q9,q10,q11,q12,q13,q14]
      clear hV hW q0 q1 q2 q3 q4 q5 q6 q7 q8 q9 q10 q11 q12 q13 q14
      go_wp2_with (refine wpList_store_row rfl 57 _ _ rfl (w.heap.size+2) #[.int .u8 x.kind,.int .u8 x.mode,.int .i64 x.loc,.int .u64 za,.int .u64 zb] rfl rfl 57 _ HV3.out.s4 acSize rfl (ac_one _ _ _ _ _) ?_)
      rw [HN.out]
      exact bodyPost_ret (v:=.tuple #[.agg #[.int .u8 x.kind,.int .u8 x.mode,.int .i64 x.loc,.int .u64 za,.int .u64 zb],.bool true]) (result_ab Tryz.results14 rfl rfl rfl (setRow_heap _ _ _ _ _ _ HV3.out.s4)) rfl ⟨rfl,row_low' HV3.out.low (by omega) _⟩
end Go.Proofs.YtagebkachdmnbaaGreatDoor.Thr
end
