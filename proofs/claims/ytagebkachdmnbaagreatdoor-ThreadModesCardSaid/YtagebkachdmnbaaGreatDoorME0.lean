/- Part 41 of the proof: what is used of the texts ThrE, ThrF. -/
import Derived.Test.YtagebkachdmnbaaGreatDoorMD9
import Derived.Test.YtagebkachdmnbaaGreatDoorMD4
section
namespace Go.Proofs.YtagebkachdmnbaaGreatDoor.Thr
open Go.RowKit Go.Shelf Go.Proofs.YtagebkachdmnbaaGreatDoor.Mem Go.Proofs.YtagebkachdmnbaaGreatDoor.Expr Go.Proofs.YtagebkachdmnbaaGreatDoor.Prog Go.Proofs.YtagebkachdmnbaaGreatDoor.Row Go.Proofs.YtagebkachdmnbaaGreatDoor.Unr Go.Lib
structure DoneV (w:World) (r:Option Addr) (n d:Nat) (b:Int) (s:St) (W:World):Prop where
  s2:Sits W w.heap.size 44 #[.slice r n d,.int .i64 b]
  s3:StB (w.heap.size+1) s W
  s4:Sits W (w.heap.size+2) 52 stZ
  low:Below w.heap.size w W
section
variable {w W W' : World} {r : Option Addr} {n d : Nat} {b : Int} {s : St}
theorem DoneV.grown (h:DoneV w r n d b s W) (hb:Below W.heap.size W W'):DoneV w r n d b s W' :=
  ⟨h.s2.below hb h.s2.lt,h.s3.below hb h.s3.lt,h.s4.below hb h.s4.lt,h.low.trans (hb.mono h.low.size)⟩
theorem DoneV.put (h:DoneV w r n d b s W) {s':St} (hs:StB (w.heap.size+1) s' W') (hk:Keeps (fun x=>x=w.heap.size+1) W W'):DoneV w r n d b s' W' :=
  ⟨h.s2.keep hk (by omega),hs,h.s4.keep hk (by omega),h.low.trans (hk.below h.low.size (fun b e=>by omega))⟩
theorem DoneV.go (h:DoneV w r n d b s W) (i:Int):DoneV w r n d b ⟨i,s.r⟩ (W.setCell ⟨w.heap.size+1,0,none⟩ (.int .i64 i)) :=
  h.put (h.s3.put 0 _) (Keeps.put (Keeps.refl (fun x=>x=w.heap.size+1) W) (.inl rfl) _)
end
theorem next_none {code:List In} {i:Int} {f:Nat->Int} (h:nextF code ⟨i,f⟩=none) (n:Int):doneF code ⟨i,f⟩ n=⟨i,f⟩:=by
  have h':(match atI code i with | none=>none | some x=>if x.kind<2 \/ 7<x.kind then none else some (acOf f x))=none:=h
  show (match atI code i with | none=>_ | some x=>_)=_
  cases hx:atI code i with
  | none=>rfl
  | some x =>
    rw [hx] at h'
    by_cases hk:x.kind<2 \/ 7<x.kind
    · exact if_pos hk
    · simp only [if_neg hk] at h';cases h'
theorem next_some {code:List In} {i:Int} {f:Nat->Int} {a:Ac} (h:nextF code ⟨i,f⟩=some a):∃ (k:Nat) (x:In),i=(k:Int)/\k<code.length/\code[k]? = some x/\a=acOf f x/\∀ n,doneF code ⟨i,f⟩ n=runF code code.length (behindF f x n):=by
  have h':(match atI code i with | none=>none | some x=>if x.kind<2 \/ 7<x.kind then none else some (acOf f x))=some a:=h
  cases hx:atI code i with
  | none=>rw [hx] at h';cases h'
  | some x =>
    rw [hx] at h'
    by_cases hk:x.kind<2 \/ 7<x.kind
    · simp only [if_pos hk] at h';cases h'
    · simp only [if_neg hk] at h'
      injection h' with h'
      unfold atI at hx
      split at hx
      · next hi =>
        refine ⟨i.toNat,x,by omega,(List.getElem?_eq_some_iff.1 hx).1,hx,h'.symm,fun n=>?_⟩
        have hx2:atI code i=some x:=by unfold atI;rw [if_pos hi];exact hx
        show (match atI code i with | none=>_ | some x=>_)=_
        rw [hx2];exact if_neg hk
      · cases hx
set_option maxHeartbeats 8000000 in
set_option maxRecDepth 100000 in
theorem done_any (code:List In) (hl:code.length<=32) (hI:∀ x ∈ code,okI x) (r:Option Addr) (d:Nat) (b:Int) (s:St) (h64:Reg64 s.r) (rd:Int) (hrd:U64 rd) (w:World) (hC:CodV w r code) :
    Calls Tryz.prog 21 #[thV r code.length d b,stV s,.int .u64 rd] w (Made (.returned (stV (doneF code s rd))) w):=by
  have HC:=Lib.hid hC
  have HI:=Lib.hid hI
  have HL:=Lib.hid hl
  have H64:=Lib.hid h64
  have HRD:=Lib.hid hrd
  have hstart:DoneV w r code.length d b s (((w.alloc (.cells #[.slice r code.length d,.int .i64 b] 44)).alloc (.cells (stC s) 52)).alloc (.cells stZ 52)):=by
    refine ⟨((Sits.new w _ _).alloc _).alloc _,(Sits.made (by simp) _ _).alloc _,Sits.made (by simp) _ _,(((Below.refl _ _).alloc (Nat.le_refl _) _).alloc (by simp) _).alloc (by simp;omega) _⟩
  have HV:=Lib.hid hstart
  clear hC hI hl h64 hstart hrd
  obtain ⟨i,f⟩:=s
  have HN:Hid (∀ W,Below w.heap.size w W->Calls Tryz.prog 14 #[thV r code.length d b,stV ⟨i,f⟩] W (Made (.returned (nextR (nextF code ⟨i,f⟩))) W)):=Lib.hid (fun W h=>next_any code HL.out HI.out r d b ⟨i,f⟩ H64.out W (HC.out.below h))
  show Calls _ _ #[_,.agg #[.int .i64 i,.int .u64 (f 0),.int .u64 (f 1),.int .u64 (f 2),.int .u64 (f 3),.int .u64 (f 4),.int .u64 (f 5),.int .u64 (f 6),.int .u64 (f 7)],_] _ _
  cases hnx:nextF code ⟨i,f⟩ with
  | none =>
    rw [hnx] at HN
    have HN:Hid (∀ W,Below w.heap.size w W->Calls Tryz.prog 14 #[thV r code.length d b,stV ⟨i,f⟩] W (Made (.returned (.tuple #[.agg acZ,.bool false])) W)):=HN
    rw [next_none hnx]
    clear hnx
    go_enter Tryz.func21,Tryz.ntmps21
    go_wp2_with fail
    refine (HN.out _ HV.out.low).mono ?_
    rintro e W1 ⟨rfl,hb⟩
    have HV1:=Lib.hid (HV.out.grown hb)
    clear hb
    have b0:W1.cell? ⟨w.heap.size,0,none⟩=some (.slice (r) code.length d):=HV1.out.s2.cell 0
    have b1:W1.cell? ⟨w.heap.size,1,none⟩=some (.int .i64 b):=HV1.out.s2.cell 1
    have lb:=HV1.out.s2.lt
    have a0:W1.cell? ⟨w.heap.size+1,0,none⟩=some (.int .i64 i):=HV1.out.s3.cell 0
    have a1:W1.cell? ⟨w.heap.size+1,1,none⟩=some (.int .u64 (f 0)):=HV1.out.s3.cell 1
    have a2:W1.cell? ⟨w.heap.size+1,2,none⟩=some (.int .u64 (f 1)):=HV1.out.s3.cell 2
    have a3:W1.cell? ⟨w.heap.size+1,3,none⟩=some (.int .u64 (f 2)):=HV1.out.s3.cell 3
    have a4:W1.cell? ⟨w.heap.size+1,4,none⟩=some (.int .u64 (f 3)):=HV1.out.s3.cell 4
    have a5:W1.cell? ⟨w.heap.size+1,5,none⟩=some (.int .u64 (f 4)):=HV1.out.s3.cell 5
    have a6:W1.cell? ⟨w.heap.size+1,6,none⟩=some (.int .u64 (f 5)):=HV1.out.s3.cell 6
    have a7:W1.cell? ⟨w.heap.size+1,7,none⟩=some (.int .u64 (f 6)):=HV1.out.s3.cell 7
    have a8:W1.cell? ⟨w.heap.size+1,8,none⟩=some (.int .u64 (f 7)):=HV1.out.s3.cell 8
    have la:=HV1.out.s3.lt
    have fa:=HV1.out.s3.free 0
    go_upto_region 2 with (fail)
    have HV2:=Lib.hid (HV1.out.grown (one_low W1 (.cells acZ 57)))
    change Code.wp _ _ _ _ (W1.alloc (.cells acZ 57))
    generalize W1.alloc (.cells acZ 57)=W2 at HV2 ⊢
    clear a0 a1 a2 a3 a4 a5 a6 a7 a8 la b0 b1 lb fa
    have b0:W2.cell? ⟨w.heap.size,0,none⟩=some (.slice (r) code.length d):=HV2.out.s2.cell 0
    have b1:W2.cell? ⟨w.heap.size,1,none⟩=some (.int .i64 b):=HV2.out.s2.cell 1
    have lb:=HV2.out.s2.lt
    have a0:W2.cell? ⟨w.heap.size+1,0,none⟩=some (.int .i64 i):=HV2.out.s3.cell 0
    have a1:W2.cell? ⟨w.heap.size+1,1,none⟩=some (.int .u64 (f 0)):=HV2.out.s3.cell 1
    have a2:W2.cell? ⟨w.heap.size+1,2,none⟩=some (.int .u64 (f 1)):=HV2.out.s3.cell 2
    have a3:W2.cell? ⟨w.heap.size+1,3,none⟩=some (.int .u64 (f 2)):=HV2.out.s3.cell 3
    have a4:W2.cell? ⟨w.heap.size+1,4,none⟩=some (.int .u64 (f 3)):=HV2.out.s3.cell 4
    have a5:W2.cell? ⟨w.heap.size+1,5,none⟩=some (.int .u64 (f 4)):=HV2.out.s3.cell 5
    have a6:W2.cell? ⟨w.heap.size+1,6,none⟩=some (.int .u64 (f 5)):=HV2.out.s3.cell 6
    have a7:W2.cell? ⟨w.heap.size+1,7,none⟩=some (.int .u64 (f 6)):=HV2.out.s3.cell 7
    have a8:W2.cell? ⟨w.heap.size+1,8,none⟩=some (.int .u64 (f 7)):=HV2.out.s3.cell 8
    have la:=HV2.out.s3.lt
    have fa:=HV2.out.s3.free 0
    go_wp2_with (refine wpList_store_row rfl 52 _ _ rfl (w.heap.size+2) (stC ⟨i,f⟩) rfl rfl 52 _ HV2.out.s4 stSize rfl (st_one _) ?_)
    exact bodyPost_ret (v:=stV ⟨i,f⟩) (result_st Tryz.results21 rfl (setRow_heap _ _ _ _ _ _ HV2.out.s4)) rfl ⟨rfl,row_low' HV2.out.low (by omega) _⟩
  | some a =>
    rw [hnx] at HN
    obtain ⟨k,x,hik,hkl,hx,ha,hdn⟩:=next_some hnx
    rw [hdn rd]
    have HB:Hid (behindF f x rd=⟨x.next,if (readsF a).isSome then putR f x.reg rd else f⟩):=Lib.hid (by rw [ha];rfl)
    have HX:=Lib.hid hx
    have kl:(k:Int)<(code.length:Int):=by omega
    subst hik
    clear hnx hkl hx ha hdn
    obtain ⟨ak,am,al,az,ay⟩:=a
    have HN:Hid (∀ W,Below w.heap.size w W->Calls Tryz.prog 14 #[thV r code.length d b,stV ⟨k,f⟩] W (Made (.returned (.tuple #[.agg #[.int .u8 ak,.int .u8 am,.int .i64 al,.int .u64 az,.int .u64 ay],.bool true])) W)):=HN
    have HRE:Hid (∀ W,Calls Tryz.prog 23 #[.agg #[.int .u8 ak,.int .u8 am,.int .i64 al,.int .u64 az,.int .u64 ay]] W (Made (.returned (modeR (readsF ⟨ak,am,al,az,ay⟩))) W)):=Lib.hid (fun W=>reads_any ⟨ak,am,al,az,ay⟩ W)
    generalize readsF ⟨ak,am,al,az,ay⟩=rs at HRE HB
    have HRU:Hid (∀ s W,Reg64 s.r->Below w.heap.size w W->Calls Tryz.prog 46 #[stV s,thV r code.length d b] W (Made (.returned (stV (runF code code.length s))) W)):=Lib.hid (fun s W h h'=>run_any code HL.out HI.out r d b s h W (HC.out.below h'))
    go_enter Tryz.func21,Tryz.ntmps21
    go_wp2_with fail
    refine (HN.out _ HV.out.low).mono ?_
    rintro e W1 ⟨rfl,hb⟩
    have HV1:=Lib.hid (HV.out.grown hb)
    clear hb
    have b0:W1.cell? ⟨w.heap.size,0,none⟩=some (.slice (r) code.length d):=HV1.out.s2.cell 0
    have b1:W1.cell? ⟨w.heap.size,1,none⟩=some (.int .i64 b):=HV1.out.s2.cell 1
    have lb:=HV1.out.s2.lt
    have a0:W1.cell? ⟨w.heap.size+1,0,none⟩=some (.int .i64 k):=HV1.out.s3.cell 0
    have a1:W1.cell? ⟨w.heap.size+1,1,none⟩=some (.int .u64 (f 0)):=HV1.out.s3.cell 1
    have a2:W1.cell? ⟨w.heap.size+1,2,none⟩=some (.int .u64 (f 1)):=HV1.out.s3.cell 2
    have a3:W1.cell? ⟨w.heap.size+1,3,none⟩=some (.int .u64 (f 2)):=HV1.out.s3.cell 3
    have a4:W1.cell? ⟨w.heap.size+1,4,none⟩=some (.int .u64 (f 3)):=HV1.out.s3.cell 4
    have a5:W1.cell? ⟨w.heap.size+1,5,none⟩=some (.int .u64 (f 4)):=HV1.out.s3.cell 5
    have a6:W1.cell? ⟨w.heap.size+1,6,none⟩=some (.int .u64 (f 5)):=HV1.out.s3.cell 6
    have a7:W1.cell? ⟨w.heap.size+1,7,none⟩=some (.int .u64 (f 6)):=HV1.out.s3.cell 7
    have a8:W1.cell? ⟨w.heap.size+1,8,none⟩=some (.int .u64 (f 7)):=HV1.out.s3.cell 8
    have la:=HV1.out.s3.lt
    have fa:=HV1.out.s3.free 0
    go_upto_region 2 with (fail)
    have HV2:=Lib.hid (HV1.out.grown (one_low W1 (.cells #[.int .u8 ak,.int .u8 am,.int .i64 al,.int .u64 az,.int .u64 ay] 57)))
    have HA2:Hid (Sits (W1.alloc (.cells #[.int .u8 ak,.int .u8 am,.int .i64 al,.int .u64 az,.int .u64 ay] 57)) W1.heap.size 57 #[.int .u8 ak,.int .u8 am,.int .i64 al,.int .u64 az,.int .u64 ay]):=Lib.hid (Sits.new _ _ _)
    change Code.wp _ _ _ _ (W1.alloc (.cells #[.int .u8 ak,.int .u8 am,.int .i64 al,.int .u64 az,.int .u64 ay] 57))
    have hg7:w.heap.size+2<W1.heap.size:=HV1.out.s4.lt
    generalize W1.alloc (.cells #[.int .u8 ak,.int .u8 am,.int .i64 al,.int .u64 az,.int .u64 ay] 57)=W2 at HV2 HA2 ⊢
    generalize W1.heap.size=g7 at HA2 hg7 ⊢
    clear a0 a1 a2 a3 a4 a5 a6 a7 a8 la b0 b1 lb fa
    obtain ⟨gx,ox,pa,pb,hr,hgx,hta,htb,hcx⟩:=(HC.out.below HV2.out.low).at_ HX.out
    subst hr
    clear hta htb
    have b0:W2.cell? ⟨w.heap.size,0,none⟩=some (.slice (some ⟨gx,ox,none⟩) code.length d):=HV2.out.s2.cell 0
    have b1:W2.cell? ⟨w.heap.size,1,none⟩=some (.int .i64 b):=HV2.out.s2.cell 1
    have lb:=HV2.out.s2.lt
    have a0:W2.cell? ⟨w.heap.size+1,0,none⟩=some (.int .i64 k):=HV2.out.s3.cell 0
    have a1:W2.cell? ⟨w.heap.size+1,1,none⟩=some (.int .u64 (f 0)):=HV2.out.s3.cell 1
    have a2:W2.cell? ⟨w.heap.size+1,2,none⟩=some (.int .u64 (f 1)):=HV2.out.s3.cell 2
    have a3:W2.cell? ⟨w.heap.size+1,3,none⟩=some (.int .u64 (f 2)):=HV2.out.s3.cell 3
    have a4:W2.cell? ⟨w.heap.size+1,4,none⟩=some (.int .u64 (f 3)):=HV2.out.s3.cell 4
    have a5:W2.cell? ⟨w.heap.size+1,5,none⟩=some (.int .u64 (f 4)):=HV2.out.s3.cell 5
    have a6:W2.cell? ⟨w.heap.size+1,6,none⟩=some (.int .u64 (f 5)):=HV2.out.s3.cell 6
    have a7:W2.cell? ⟨w.heap.size+1,7,none⟩=some (.int .u64 (f 6)):=HV2.out.s3.cell 7
    have a8:W2.cell? ⟨w.heap.size+1,8,none⟩=some (.int .u64 (f 7)):=HV2.out.s3.cell 8
    have la:=HV2.out.s3.lt
    have fa:=HV2.out.s3.free 0
    have x0:W2.cell? ⟨gx,ox+k * 8,none⟩=some (.int .u8 x.kind):=hcx 0 (by omega)
    have x1:W2.cell? ⟨gx,ox+k * 8+1,none⟩=some (.int .u8 x.reg):=hcx 1 (by omega)
    have x2:W2.cell? ⟨gx,ox+k * 8+2,none⟩=some (.int .u8 x.mode):=hcx 2 (by omega)
    have x3:W2.cell? ⟨gx,ox+k * 8+3,none⟩=some (.int .i64 x.loc):=hcx 3 (by omega)
    have x4:W2.cell? ⟨gx,ox+k * 8+4,none⟩=some (.pointer pa):=hcx 4 (by omega)
    have x5:W2.cell? ⟨gx,ox+k * 8+5,none⟩=some (.pointer pb):=hcx 5 (by omega)
    have x6:W2.cell? ⟨gx,ox+k * 8+6,none⟩=some (.int .i64 x.next):=hcx 6 (by omega)
    have x7:W2.cell? ⟨gx,ox+k * 8+7,none⟩=some (.int .i64 x.els):=hcx 7 (by omega)
    clear hcx
    go_upto_region 5 with (fail)
    have HB3:=Lib.hid (one_low W2 (.cells (inC x pa pb) 82))
    have HV3:=Lib.hid (HV2.out.grown HB3.out)
    have HA3:=Lib.hid (HA2.out.below HB3.out HA2.out.lt)
    have HX3:Hid (Sits (W2.alloc (.cells (inC x pa pb) 82)) W2.heap.size 82 (inC x pa pb)):=Lib.hid (Sits.new _ _ _)
    have hg6:w.heap.size+2<W2.heap.size:=HV2.out.s4.lt
    change Code.wp _ _ _ _ (W2.alloc (.cells (inC x pa pb) 82))
    generalize W2.alloc (.cells (inC x pa pb) 82)=W3 at HB3 HV3 HA3 HX3 ⊢
    generalize W2.heap.size=g6 at HX3 hg6 ⊢
    clear a0 a1 a2 a3 a4 a5 a6 a7 a8 la b0 b1 lb fa x0 x1 x2 x3 x4 x5 x6 x7 HB3
    have b0:W3.cell? ⟨w.heap.size,0,none⟩=some (.slice (some ⟨gx,ox,none⟩) code.length d):=HV3.out.s2.cell 0
    have b1:W3.cell? ⟨w.heap.size,1,none⟩=some (.int .i64 b):=HV3.out.s2.cell 1
    have lb:=HV3.out.s2.lt
    have a0:W3.cell? ⟨w.heap.size+1,0,none⟩=some (.int .i64 k):=HV3.out.s3.cell 0
    have a1:W3.cell? ⟨w.heap.size+1,1,none⟩=some (.int .u64 (f 0)):=HV3.out.s3.cell 1
    have a2:W3.cell? ⟨w.heap.size+1,2,none⟩=some (.int .u64 (f 1)):=HV3.out.s3.cell 2
    have a3:W3.cell? ⟨w.heap.size+1,3,none⟩=some (.int .u64 (f 2)):=HV3.out.s3.cell 3
    have a4:W3.cell? ⟨w.heap.size+1,4,none⟩=some (.int .u64 (f 3)):=HV3.out.s3.cell 4
    have a5:W3.cell? ⟨w.heap.size+1,5,none⟩=some (.int .u64 (f 4)):=HV3.out.s3.cell 5
    have a6:W3.cell? ⟨w.heap.size+1,6,none⟩=some (.int .u64 (f 5)):=HV3.out.s3.cell 6
    have a7:W3.cell? ⟨w.heap.size+1,7,none⟩=some (.int .u64 (f 6)):=HV3.out.s3.cell 7
    have a8:W3.cell? ⟨w.heap.size+1,8,none⟩=some (.int .u64 (f 7)):=HV3.out.s3.cell 8
    have la:=HV3.out.s3.lt
    have fa:=HV3.out.s3.free 0
    have x0:W3.cell? ⟨g6,0,none⟩=some (.int .u8 x.kind):=HX3.out.cell 0
    have x1:W3.cell? ⟨g6,1,none⟩=some (.int .u8 x.reg):=HX3.out.cell 1
    have x2:W3.cell? ⟨g6,2,none⟩=some (.int .u8 x.mode):=HX3.out.cell 2
    have x3:W3.cell? ⟨g6,3,none⟩=some (.int .i64 x.loc):=HX3.out.cell 3
    have x4:W3.cell? ⟨g6,4,none⟩=some (.pointer pa):=HX3.out.cell 4
    have x5:W3.cell? ⟨g6,5,none⟩=some (.pointer pb):=HX3.out.cell 5
    have x6:W3.cell? ⟨g6,6,none⟩=some (.int .i64 x.next):=HX3.out.cell 6
    have x7:W3.cell? ⟨g6,7,none⟩=some (.int .i64 x.els):=HX3.out.cell 7
    have lx:=HX3.out.lt
    have c0:W3.cell? ⟨g7,0,none⟩=some (.int .u8 ak):=HA3.out.cell 0
    have c1:W3.cell? ⟨g7,1,none⟩=some (.int .u8 am):=HA3.out.cell 1
    have c2:W3.cell? ⟨g7,2,none⟩=some (.int .i64 al):=HA3.out.cell 2
    have c3:W3.cell? ⟨g7,3,none⟩=some (.int .u64 az):=HA3.out.cell 3
    have c4:W3.cell? ⟨g7,4,none⟩=some (.int .u64 ay):=HA3.out.cell 4
    have lc:=HA3.out.lt
    cases rs with
    | none =>
      have HRE:Hid (∀ W,Calls Tryz.prog 23 #[.agg #[.int .u8 ak,.int .u8 am,.int .i64 al,.int .u64 az,.int .u64 ay]] W (Made (.returned (.tuple #[.int .u8 0,.bool false])) W)):=HRE
      have HB:Hid (behindF f x rd=⟨x.next,f⟩):=HB
      go_wp2_with fail
      refine (HRE.out _).mono ?_
      rintro e W4 ⟨rfl,hb⟩
      have HV4:=Lib.hid (HV3.out.grown hb)
      have HX4:=Lib.hid (HX3.out.below hb HX3.out.lt)
      clear a0 a1 a2 a3 a4 a5 a6 a7 a8 la b0 b1 lb fa x0 x1 x2 x3 x4 x5 x6 x7 lx c0 c1 c2 c3 c4 lc hb
      have b0:W4.cell? ⟨w.heap.size,0,none⟩=some (.slice (some ⟨gx,ox,none⟩) code.length d):=HV4.out.s2.cell 0
      have b1:W4.cell? ⟨w.heap.size,1,none⟩=some (.int .i64 b):=HV4.out.s2.cell 1
      have lb:=HV4.out.s2.lt
      have a0:W4.cell? ⟨w.heap.size+1,0,none⟩=some (.int .i64 k):=HV4.out.s3.cell 0
      have a1:W4.cell? ⟨w.heap.size+1,1,none⟩=some (.int .u64 (f 0)):=HV4.out.s3.cell 1
      have a2:W4.cell? ⟨w.heap.size+1,2,none⟩=some (.int .u64 (f 1)):=HV4.out.s3.cell 2
      have a3:W4.cell? ⟨w.heap.size+1,3,none⟩=some (.int .u64 (f 2)):=HV4.out.s3.cell 3
      have a4:W4.cell? ⟨w.heap.size+1,4,none⟩=some (.int .u64 (f 3)):=HV4.out.s3.cell 4
      have a5:W4.cell? ⟨w.heap.size+1,5,none⟩=some (.int .u64 (f 4)):=HV4.out.s3.cell 5
      have a6:W4.cell? ⟨w.heap.size+1,6,none⟩=some (.int .u64 (f 5)):=HV4.out.s3.cell 6
      have a7:W4.cell? ⟨w.heap.size+1,7,none⟩=some (.int .u64 (f 6)):=HV4.out.s3.cell 7
      have a8:W4.cell? ⟨w.heap.size+1,8,none⟩=some (.int .u64 (f 7)):=HV4.out.s3.cell 8
      have la:=HV4.out.s3.lt
      have fa:=HV4.out.s3.free 0
      have x0:W4.cell? ⟨g6,0,none⟩=some (.int .u8 x.kind):=HX4.out.cell 0
      have x1:W4.cell? ⟨g6,1,none⟩=some (.int .u8 x.reg):=HX4.out.cell 1
      have x2:W4.cell? ⟨g6,2,none⟩=some (.int .u8 x.mode):=HX4.out.cell 2
      have x3:W4.cell? ⟨g6,3,none⟩=some (.int .i64 x.loc):=HX4.out.cell 3
      have x4:W4.cell? ⟨g6,4,none⟩=some (.pointer pa):=HX4.out.cell 4
      have x5:W4.cell? ⟨g6,5,none⟩=some (.pointer pb):=HX4.out.cell 5
      have x6:W4.cell? ⟨g6,6,none⟩=some (.int .i64 x.next):=HX4.out.cell 6
      have x7:W4.cell? ⟨g6,7,none⟩=some (.int .i64 x.els):=HX4.out.cell 7
      have lx:=HX4.out.lt
      go_upto_region 9 with (fail)
      have HV6:=Lib.hid (HV4.out.go x.next)
      generalize W4.setCell ⟨w.heap.size+1,0,none⟩ (.int .i64 x.next)=W6 at HV6 ⊢
      clear a0 a1 a2 a3 a4 a5 a6 a7 a8 la b0 b1 lb fa x0 x1 x2 x3 x4 x5 x6 x7 lx
      have b0:W6.cell? ⟨w.heap.size,0,none⟩=some (.slice (some ⟨gx,ox,none⟩) code.length d):=HV6.out.s2.cell 0
      have b1:W6.cell? ⟨w.heap.size,1,none⟩=some (.int .i64 b):=HV6.out.s2.cell 1
      have lb:=HV6.out.s2.lt
      have a0:W6.cell? ⟨w.heap.size+1,0,none⟩=some (.int .i64 x.next):=HV6.out.s3.cell 0
      have a1:W6.cell? ⟨w.heap.size+1,1,none⟩=some (.int .u64 (f 0)):=HV6.out.s3.cell 1
      have a2:W6.cell? ⟨w.heap.size+1,2,none⟩=some (.int .u64 (f 1)):=HV6.out.s3.cell 2
      have a3:W6.cell? ⟨w.heap.size+1,3,none⟩=some (.int .u64 (f 2)):=HV6.out.s3.cell 3
      have a4:W6.cell? ⟨w.heap.size+1,4,none⟩=some (.int .u64 (f 3)):=HV6.out.s3.cell 4
      have a5:W6.cell? ⟨w.heap.size+1,5,none⟩=some (.int .u64 (f 4)):=HV6.out.s3.cell 5
      have a6:W6.cell? ⟨w.heap.size+1,6,none⟩=some (.int .u64 (f 5)):=HV6.out.s3.cell 6
      have a7:W6.cell? ⟨w.heap.size+1,7,none⟩=some (.int .u64 (f 6)):=HV6.out.s3.cell 7
      have a8:W6.cell? ⟨w.heap.size+1,8,none⟩=some (.int .u64 (f 7)):=HV6.out.s3.cell 8
      have la:=HV6.out.s3.lt
      have fa:=HV6.out.s3.free 0
      go_wp2_with fail
      refine (HRU.out ⟨x.next,f⟩ W6 H64.out HV6.out.low).mono ?_
      rintro e W7 ⟨rfl,hb⟩
      have HV7:=Lib.hid (HV6.out.grown hb)
      generalize hst:runF code code.length ⟨x.next,f⟩=st
      obtain ⟨i2,f3⟩:=st
      have HST:Hid (runF code code.length (behindF f x rd)=⟨i2,f3⟩):=Lib.hid (by rw [HB.out];exact hst)
      clear hst
      clear a0 a1 a2 a3 a4 a5 a6 a7 a8 la b0 b1 lb fa hb
      go_wp2_with (refine wpList_store_row rfl 52 _ _ rfl (w.heap.size+2) (stC ⟨i2,f3⟩) rfl rfl 52 _ HV7.out.s4 stSize rfl (st_one _) ?_)
      exact bodyPost_ret (v:=stV ⟨i2,f3⟩) (result_st Tryz.results21 rfl (setRow_heap _ _ _ _ _ _ HV7.out.s4)) rfl ⟨by rw [HST.out],row_low' HV7.out.low (by omega) _⟩
    | some mo =>
      have HRE:Hid (∀ W,Calls Tryz.prog 23 #[.agg #[.int .u8 ak,.int .u8 am,.int .i64 al,.int .u64 az,.int .u64 ay]] W (Made (.returned (.tuple #[.int .u8 mo,.bool true])) W)):=HRE
      have HB:Hid (behindF f x rd=⟨x.next,putR f x.reg rd⟩):=HB
      go_wp2_with fail
      refine (HRE.out _).mono ?_
      rintro e W4 ⟨rfl,hb⟩
      have HV4:=Lib.hid (HV3.out.grown hb)
      have HX4:=Lib.hid (HX3.out.below hb HX3.out.lt)
      clear a0 a1 a2 a3 a4 a5 a6 a7 a8 la b0 b1 lb fa x0 x1 x2 x3 x4 x5 x6 x7 lx c0 c1 c2 c3 c4 lc hb
      have b0:W4.cell? ⟨w.heap.size,0,none⟩=some (.slice (some ⟨gx,ox,none⟩) code.length d):=HV4.out.s2.cell 0
      have b1:W4.cell? ⟨w.heap.size,1,none⟩=some (.int .i64 b):=HV4.out.s2.cell 1
      have lb:=HV4.out.s2.lt
      have a0:W4.cell? ⟨w.heap.size+1,0,none⟩=some (.int .i64 k):=HV4.out.s3.cell 0
      have a1:W4.cell? ⟨w.heap.size+1,1,none⟩=some (.int .u64 (f 0)):=HV4.out.s3.cell 1
      have a2:W4.cell? ⟨w.heap.size+1,2,none⟩=some (.int .u64 (f 1)):=HV4.out.s3.cell 2
      have a3:W4.cell? ⟨w.heap.size+1,3,none⟩=some (.int .u64 (f 2)):=HV4.out.s3.cell 3
      have a4:W4.cell? ⟨w.heap.size+1,4,none⟩=some (.int .u64 (f 3)):=HV4.out.s3.cell 4
      have a5:W4.cell? ⟨w.heap.size+1,5,none⟩=some (.int .u64 (f 4)):=HV4.out.s3.cell 5
      have a6:W4.cell? ⟨w.heap.size+1,6,none⟩=some (.int .u64 (f 5)):=HV4.out.s3.cell 6
      have a7:W4.cell? ⟨w.heap.size+1,7,none⟩=some (.int .u64 (f 6)):=HV4.out.s3.cell 7
      have a8:W4.cell? ⟨w.heap.size+1,8,none⟩=some (.int .u64 (f 7)):=HV4.out.s3.cell 8
      have la:=HV4.out.s3.lt
      have fa:=HV4.out.s3.free 0
      have x0:W4.cell? ⟨g6,0,none⟩=some (.int .u8 x.kind):=HX4.out.cell 0
      have x1:W4.cell? ⟨g6,1,none⟩=some (.int .u8 x.reg):=HX4.out.cell 1
      have x2:W4.cell? ⟨g6,2,none⟩=some (.int .u8 x.mode):=HX4.out.cell 2
      have x3:W4.cell? ⟨g6,3,none⟩=some (.int .i64 x.loc):=HX4.out.cell 3
      have x4:W4.cell? ⟨g6,4,none⟩=some (.pointer pa):=HX4.out.cell 4
      have x5:W4.cell? ⟨g6,5,none⟩=some (.pointer pb):=HX4.out.cell 5
      have x6:W4.cell? ⟨g6,6,none⟩=some (.int .i64 x.next):=HX4.out.cell 6
      have x7:W4.cell? ⟨g6,7,none⟩=some (.int .i64 x.els):=HX4.out.cell 7
      have lx:=HX4.out.lt
      go_wp2_with fail
      refine (put_reg ⟨k,f⟩ x.reg rd (w.heap.size+1) W4 HV4.out.s3).mono ?_
      rintro e W5 ⟨rfl,hs,hkp⟩
      have HV5:=Lib.hid (HV4.out.put hs hkp)
      have HX5:=Lib.hid (HX4.out.keep hkp (by omega))
      clear a0 a1 a2 a3 a4 a5 a6 a7 a8 la b0 b1 lb fa x0 x1 x2 x3 x4 x5 x6 x7 lx hs hkp
      have H642:Hid (Reg64 (putR f x.reg rd)):=Lib.hid (putR_64 H64.out _ HRD.out)
      have HV5:Hid (DoneV w (some ⟨gx,ox,none⟩) code.length d b ⟨k,putR f x.reg rd⟩ W5):=HV5
      generalize putR f x.reg rd=f2 at HV5 H642 HB ⊢
      have b0:W5.cell? ⟨w.heap.size,0,none⟩=some (.slice (some ⟨gx,ox,none⟩) code.length d):=HV5.out.s2.cell 0
      have b1:W5.cell? ⟨w.heap.size,1,none⟩=some (.int .i64 b):=HV5.out.s2.cell 1
      have lb:=HV5.out.s2.lt
      have a0:W5.cell? ⟨w.heap.size+1,0,none⟩=some (.int .i64 k):=HV5.out.s3.cell 0
      have a1:W5.cell? ⟨w.heap.size+1,1,none⟩=some (.int .u64 (f2 0)):=HV5.out.s3.cell 1
      have a2:W5.cell? ⟨w.heap.size+1,2,none⟩=some (.int .u64 (f2 1)):=HV5.out.s3.cell 2
      have a3:W5.cell? ⟨w.heap.size+1,3,none⟩=some (.int .u64 (f2 2)):=HV5.out.s3.cell 3
      have a4:W5.cell? ⟨w.heap.size+1,4,none⟩=some (.int .u64 (f2 3)):=HV5.out.s3.cell 4
      have a5:W5.cell? ⟨w.heap.size+1,5,none⟩=some (.int .u64 (f2 4)):=HV5.out.s3.cell 5
      have a6:W5.cell? ⟨w.heap.size+1,6,none⟩=some (.int .u64 (f2 5)):=HV5.out.s3.cell 6
      have a7:W5.cell? ⟨w.heap.size+1,7,none⟩=some (.int .u64 (f2 6)):=HV5.out.s3.cell 7
      have a8:W5.cell? ⟨w.heap.size+1,8,none⟩=some (.int .u64 (f2 7)):=HV5.out.s3.cell 8
      have la:=HV5.out.s3.lt
      have fa:=HV5.out.s3.free 0
      have x0:W5.cell? ⟨g6,0,none⟩=some (.int .u8 x.kind):=HX5.out.cell 0
      have x1:W5.cell? ⟨g6,1,none⟩=some (.int .u8 x.reg):=HX5.out.cell 1
      have x2:W5.cell? ⟨g6,2,none⟩=some (.int .u8 x.mode):=HX5.out.cell 2
      have x3:W5.cell? ⟨g6,3,none⟩=some (.int .i64 x.loc):=HX5.out.cell 3
      have x4:W5.cell? ⟨g6,4,none⟩=some (.pointer pa):=HX5.out.cell 4
      have x5:W5.cell? ⟨g6,5,none⟩=some (.pointer pb):=HX5.out.cell 5
      have x6:W5.cell? ⟨g6,6,none⟩=some (.int .i64 x.next):=HX5.out.cell 6
      have x7:W5.cell? ⟨g6,7,none⟩=some (.int .i64 x.els):=HX5.out.cell 7
      have lx:=HX5.out.lt
      go_upto_region 9 with (fail)
      have HV6:=Lib.hid (HV5.out.go x.next)
      generalize W5.setCell ⟨w.heap.size+1,0,none⟩ (.int .i64 x.next)=W6 at HV6 ⊢
      clear a0 a1 a2 a3 a4 a5 a6 a7 a8 la b0 b1 lb fa x0 x1 x2 x3 x4 x5 x6 x7 lx
      have b0:W6.cell? ⟨w.heap.size,0,none⟩=some (.slice (some ⟨gx,ox,none⟩) code.length d):=HV6.out.s2.cell 0
      have b1:W6.cell? ⟨w.heap.size,1,none⟩=some (.int .i64 b):=HV6.out.s2.cell 1
      have lb:=HV6.out.s2.lt
      have a0:W6.cell? ⟨w.heap.size+1,0,none⟩=some (.int .i64 x.next):=HV6.out.s3.cell 0
      have a1:W6.cell? ⟨w.heap.size+1,1,none⟩=some (.int .u64 (f2 0)):=HV6.out.s3.cell 1
      have a2:W6.cell? ⟨w.heap.size+1,2,none⟩=some (.int .u64 (f2 1)):=HV6.out.s3.cell 2
      have a3:W6.cell? ⟨w.heap.size+1,3,none⟩=some (.int .u64 (f2 2)):=HV6.out.s3.cell 3
      have a4:W6.cell? ⟨w.heap.size+1,4,none⟩=some (.int .u64 (f2 3)):=HV6.out.s3.cell 4
      have a5:W6.cell? ⟨w.heap.size+1,5,none⟩=some (.int .u64 (f2 4)):=HV6.out.s3.cell 5
      have a6:W6.cell? ⟨w.heap.size+1,6,none⟩=some (.int .u64 (f2 5)):=HV6.out.s3.cell 6
      have a7:W6.cell? ⟨w.heap.size+1,7,none⟩=some (.int .u64 (f2 6)):=HV6.out.s3.cell 7
      have a8:W6.cell? ⟨w.heap.size+1,8,none⟩=some (.int .u64 (f2 7)):=HV6.out.s3.cell 8
      have la:=HV6.out.s3.lt
      have fa:=HV6.out.s3.free 0
      go_wp2_with fail
      refine (HRU.out ⟨x.next,f2⟩ W6 H642.out HV6.out.low).mono ?_
      rintro e W7 ⟨rfl,hb⟩
      have HV7:=Lib.hid (HV6.out.grown hb)
      generalize hst:runF code code.length ⟨x.next,f2⟩=st
      obtain ⟨i2,f3⟩:=st
      have HST:Hid (runF code code.length (behindF f x rd)=⟨i2,f3⟩):=Lib.hid (by rw [HB.out];exact hst)
      clear hst
      clear a0 a1 a2 a3 a4 a5 a6 a7 a8 la b0 b1 lb fa hb
      go_wp2_with (refine wpList_store_row rfl 52 _ _ rfl (w.heap.size+2) (stC ⟨i2,f3⟩) rfl rfl 52 _ HV7.out.s4 stSize rfl (st_one _) ?_)
      exact bodyPost_ret (v:=stV ⟨i2,f3⟩) (result_st Tryz.results21 rfl (setRow_heap _ _ _ _ _ _ HV7.out.s4)) rfl ⟨by rw [HST.out],row_low' HV7.out.low (by omega) _⟩
end Go.Proofs.YtagebkachdmnbaaGreatDoor.Thr
end
section
namespace Go.Proofs.YtagebkachdmnbaaGreatDoor.Thr
open Go.RowKit Go.Shelf Go.Proofs.YtagebkachdmnbaaGreatDoor.Mem Go.Proofs.YtagebkachdmnbaaGreatDoor.Expr Go.Proofs.YtagebkachdmnbaaGreatDoor.Prog Go.Proofs.YtagebkachdmnbaaGreatDoor.Row Go.Proofs.YtagebkachdmnbaaGreatDoor.Unr Go.Lib
theorem snoc_ind {α:Type} {P:List α->Prop} (h0:P []) (h1:∀ l x,P l->P (l ++ [x])) (l:List α):P l:=by
  have h:∀ l:List α,P l.reverse:=fun l=>by
    induction l with
    | nil=>exact h0
    | cons a l ih=>rw [List.reverse_cons];exact h1 _ _ ih
  have h':=h l.reverse
  rwa [List.reverse_reverse] at h'
theorem found_snoc (cnt:Nat->Bool) (l:List In) (x:In):foundF cnt (l ++ [x])=foundF cnt l ++ [stepM cnt (foundF cnt l) x]:=by
  unfold foundF;rw [List.foldl_append];rfl
theorem found_len (cnt:Nat->Bool):∀ (l:List In),(foundF cnt l).length=l.length:=by
  refine snoc_ind rfl fun l x ih=>?_
  rw [found_snoc];simp [ih]
theorem found_take (cnt:Nat->Bool) (l:List In) (k:Nat) (hk:k<=l.length):(foundF cnt l).take k=foundF cnt (l.take k):=by
  revert hk
  refine snoc_ind (P:=fun l=>k<=l.length->(foundF cnt l).take k=foundF cnt (l.take k)) (fun hk=>by simp at hk;subst hk;rfl) (fun l x ih hk=>?_) l
  · by_cases e:k=l.length+1
    · subst e
      rw [List.take_of_length_le (by rw [found_len];simp),List.take_of_length_le (by simp)]
    · have hk:k<=l.length:=by simp at hk;omega
      rw [found_snoc,List.take_append_of_le_length (by rw [found_len];exact hk),List.take_append_of_le_length hk,ih hk]
theorem found_at (cnt:Nat->Bool) {l:List In} {k:Nat} {x:In} (hx:l[k]? = some x):(foundF cnt l)[k]? = some (stepM cnt ((foundF cnt l).take k) x):=by
  have hk:k<l.length:=(List.getElem?_eq_some_iff.1 hx).1
  have h1:((foundF cnt l).take (k+1))[k]? = (foundF cnt l)[k]?:=by rw [List.getElem?_take];simp
  rw [<- h1,found_take cnt l (k+1) (by omega),found_take cnt l k (by omega),List.take_add_one,hx]
  show (foundF cnt (l.take k ++ [x]))[k]? = _
  rw [found_snoc,List.getElem?_append_right (by rw [found_len,List.length_take];exact Nat.min_le_left _ _)]
  rw [found_len]
  have:k - (l.take k).length=0:=by rw [List.length_take];omega
  rw [this];rfl
theorem beh_le {f:List Nat} {m:Nat} (h:∀ v ∈ f,v<=m) (i:Int):behF f i<=m:=by
  unfold behF
  split
  · exact Nat.zero_le _
  · next hi =>
    have hl:i.toNat<f.length:=by omega
    rw [List.getD_eq_getElem?_getD,List.getElem?_eq_getElem hl]
    exact h _ (List.getElem_mem hl)
theorem step_le (cnt:Nat->Bool) {f:List Nat} {m:Nat} (h:∀ v ∈ f,v<=m) (x:In):stepM cnt f x<=m+1:=by
  have h1:=beh_le h x.next
  have h2:=beh_le h x.els
  unfold stepM
  split
  · omega
  · split
    · omega
    · split <;> omega
theorem found_le (cnt:Nat->Bool):∀ (l:List In),∀ v ∈ foundF cnt l,v<=l.length:=by
  refine snoc_ind (by intro v hv;simp [foundF] at hv) fun l x ih=>?_
  · intro v hv
    rw [found_snoc] at hv
    rcases List.mem_append.1 hv with hv | hv
    · have:=ih v hv;simp;omega
    · rw [List.mem_singleton] at hv;subst hv
      have:=step_le cnt ih x
      simp;omega
def zerosI (n:Nat):Array Value:=madeCells #[.int .i64 0] n
theorem i64Info:(Tryz.prog.info? 3).map (fun i=>(i.zero,i.size,i.bytes))=some (some (.int .i64 0),1,8):=by kernel_rfl
set_option maxRecDepth 100000 in
theorem madeI (w:World) (n:Nat) (hn:n<=1000):(Instr.makeSlice 151 (.int .i64 (n:Nat)) (.int .i64 (n:Nat))).run Tryz.prog w = .ok (.slice (some ⟨w.heap.size,0,none⟩) n n) (w.alloc (.cells (zerosI n) 3)):=by
  obtain ⟨i0,hi,hz0,hz1,hz2⟩:=info_parts i64Info
  have h:=run_make (P:=Tryz.prog) w 151 3 i0 (.int .i64 0) Tryz.underlying151 hi hz0 .i64 .i64 (n:Nat) (n:Nat) (by omega) (by omega) (by rw [hz2];omega) (by omega)
  rw [hz1] at h
  rw [h]
  have e:zerosI n=madeCells (Value.int .i64 0).cells (Int.toNat (n:Int) * 1):=by
    show madeCells _ n=madeCells _ _
    congr 1
    omega
  rw [e];rfl
def valI (L:List Nat) (i:Nat):Array Value:=((List.range L.length).map fun j=>Value.int .i64 ((if j<i then L.getD j 0 else 0:Nat):Int)).toArray
theorem valI_zero (L:List Nat):valI L 0=zerosI L.length:=by
  apply Array.ext
  · simp [valI,zerosI,madeCells]
  · intro i h1 h2
    have hi:i<L.length:=by simpa [valI] using h1
    have e1:(zerosI L.length)[i]? = some (.int .i64 0):=by
      unfold zerosI
      rw [<- Array.getElem?_toList,toList_madeCells_one,List.getElem?_replicate,if_pos hi]
    rw [Array.getElem?_eq_getElem h2] at e1
    rw [Option.some.inj e1]
    simp [valI]
theorem valI_at (L:List Nat) {i j:Nat} (h:j<L.length):(valI L i)[j]? = some (.int .i64 ((if j<i then L.getD j 0 else 0:Nat):Int)):=by simp [valI,h]
theorem valI_put (L:List Nat) {i n:Nat} (h:L[i]? = some n):(valI L i).setIfInBounds i (.int .i64 (n:Nat))=valI L (i+1):=by
  obtain ⟨hl,he⟩:=List.getElem?_eq_some_iff.1 h
  apply Array.ext
  · simp [valI]
  · intro j h1 h2
    by_cases e:i=j
    · subst e;simp [valI,List.getD_eq_getElem?_getD,h]
    · have e2:j<i+1 ↔ j<i:=by omega
      simp [valI,e,e2]
set_option maxRecDepth 100000 in
theorem behind_any (L:List Nat) (k g8 g7 g5:Nat) (hk:k<L.length) (_:L.length<=1000) (i:Int) (W:World) (h8:Sits W g8 3 #[.int .i64 (k:Nat)]) (h7:Sits W g7 151 #[.slice (some ⟨g5,0,none⟩) L.length L.length]) (h5:Sits W g5 3 (valI L k)) :
    Calls Tryz.prog 107 #[.int .i64 i,.pointer (some ⟨g8,0,none⟩),.pointer (some ⟨g7,0,none⟩)] W fun e w'=>e = .returned (.int .i64 (behF (L.take k) i:Nat))/\W=w':=by
  have a8:W.cell? ⟨g8,0,none⟩=some (.int .i64 (k:Nat)):=h8.cell 0
  have a7:W.cell? ⟨g7,0,none⟩=some (.slice (some ⟨g5,0,none⟩) L.length L.length):=h7.cell 0
  have l8:=h8.lt
  have l7:=h7.lt
  have l5:=h5.lt
  have hlen:(L.take k).length=k:=by rw [List.length_take];omega
  by_cases h0:i<0
  · have e:behF (L.take k) i=0:=by unfold behF;rw [if_pos (.inl h0)]
    have e0:decide (i<0)=true:=decide_eq_true h0
    rw [e];clear e h0 h8 h7 h5
    go_enter Tryz.func107,Tryz.ntmps107
    go_wp2_with fail
    go_ret
    exact ⟨rfl,rfl⟩
  · have e0:decide (i<0)=false:=decide_eq_false h0
    by_cases h1:(k:Int)<=i
    · have e:behF (L.take k) i=0:=by unfold behF;rw [hlen,if_pos (.inr h1)]
      have e1:decide ((k:Int)<=i)=true:=decide_eq_true h1
      rw [e];clear e h0 h1 h8 h7 h5
      go_enter Tryz.func107,Tryz.ntmps107
      go_wp2_with fail
      go_ret
      exact ⟨rfl,rfl⟩
    · have e1:decide ((k:Int)<=i)=false:=decide_eq_false h1
      obtain ⟨j,rfl⟩:∃ j:Nat,i=(j:Int):=⟨i.toNat,by omega⟩
      have hjk:j<k:=by omega
      have e1:decide ((k:Int)<=(j:Int))=false:=decide_eq_false h1
      have e2:decide (k<=j)=false:=decide_eq_false (by omega)
      have e:behF (L.take k) (j:Int)=L.getD j 0:=by
        unfold behF;rw [hlen,if_neg (by omega)]
        simp [List.getD_eq_getElem?_getD,hjk]
      rw [e]
      have c5:W.cell? ⟨g5,j,none⟩=some (.int .i64 (L.getD j 0:Nat)):=by
        rw [h5.cell j,valI_at L (by omega),if_pos hjk]
      have j1:(j:Int)<(L.length:Int):=by omega
      have j2:(0:Int)<=(j:Int):=by omega
      generalize L.getD j 0=z at c5 ⊢
      clear e h0 h1 h8 h7 h5 hlen hjk
      go_enter Tryz.func107,Tryz.ntmps107
      go_wp2_with fail
      go_ret
      exact ⟨rfl,rfl⟩
end Go.Proofs.YtagebkachdmnbaaGreatDoor.Thr
end
