/- Proved here: troth/trothlaw08.ThreadModes answers true for every access and every number that is read (what any access reads and writes, and by which modes, is what the document says), and leaves its arguments alone. Condition: the tables troth/check.kinds, troth/prog.modeTexts and troth/num.texts hold what their packages' own initialisers lay, which the card ties to those texts. -/
import Derived.Test.YtagebkachdmnbaaGreatDoorME6
import Derived.Test.YtagebkachdmnbaaGreatDoorMD4
import Derived.Test.YtagebkachdmnbaaGreatDoorME7
import Derived.Lib.SmallJoins
section
namespace Go.Proofs.YtagebkachdmnbaaGreatDoor.ThreadModes
open Go.RowKit Go.ChangeShapes Go.WideShapes Go.ChangeAt Go.Proofs.YtagebkachdmnbaaGreatDoor.Card Go.Proofs.YtagebkachdmnbaaGreatDoor.Expr Go.Proofs.YtagebkachdmnbaaGreatDoor.Prog Go.Proofs.YtagebkachdmnbaaGreatDoor.Chk Go.Proofs.YtagebkachdmnbaaGreatDoor.Thr
theorem laidOut:laidOutB Tryz.prog=true:=by kernel_rfl
theorem gTexts : Tryz.prog.globalNamed "troth/num.texts" = some 5 := by kernel_rfl
theorem gTextsType:(Tryz.prog.globals[5]?).map (·.type)=some 379:=by kernel_rfl
theorem own:ownKnob Tryz.prog.godebug=none:=by kernel_rfl
theorem textsAt_of {w : World} (h : Num.StrIs Tryz.prog w "troth/num.texts" Num.texts) : Num.TextsAt w := by
  have hc:=fun (i:Nat) (hi:i<15)=>h.cell gTexts i (by simpa [Num.texts] using hi)
  refine ⟨?_,hc⟩
  have h0:=hc 0 (by omega)
  apply Nat.lt_of_not_le
  intro hle
  have hn:w.heap[5]? = none:=Array.getElem?_eq_none hle
  simp [World.cell?,hn] at h0
theorem gMode : Tryz.prog.globalNamed "troth/prog.modeTexts" = some 4 := by kernel_rfl
theorem gModeType:(Tryz.prog.globals[4]?).map (·.type)=some 378:=by kernel_rfl
theorem modeAt_of {w : World} (h : Num.StrIs Tryz.prog w "troth/prog.modeTexts" modes) : ModeAt w := by
  have hc:=fun (i:Nat) (hi:i<7)=>h.cell gMode i (by simpa [modes] using hi)
  refine ⟨?_,hc⟩
  have h0:=hc 0 (by omega)
  apply Nat.lt_of_not_le
  intro hle
  have hn:w.heap[4]? = none:=Array.getElem?_eq_none hle
  simp [World.cell?,hn] at h0
theorem all_of {W:World} (h:laidMetH Tryz.prog Rows.threadModesRow.laid W):AllK W:=by
  have h':laidMet Tryz.prog Rows.threadModesRow.laid W:=h
  refine ⟨⟨⟨textsAt_of (strs_of_reads gTexts gTextsType Tryz.underlying379 Tryz.underlying9 (by kernel_rfl) (by kernel_rfl) (Lib.laidMet.reads h' ?_)),trivial⟩,
    modeAt_of (strs_of_reads gMode gModeType Tryz.underlying378 Tryz.underlying9 (by kernel_rfl) (by kernel_rfl) (Lib.laidMet.reads h' ?_))⟩,kindAt_of (Lib.laidMet.reads h' ?_)⟩
  · exact .head _
  · exact .tail _ (.head _)
  · exact .tail _ (.tail _ (.head _))
noncomputable def laidWorld (os:Os):World :=
  { World.holding Tryz.prog os ⟨#[],#[],[]⟩ with heap:=(((World.holding Tryz.prog os ⟨#[],#[],[]⟩).heap.modify 5 (layOne Rows.laid_troth_num_texts)).modify 4 (layOne Rows.laid_troth_prog_modeTexts)).modify 0 layKinds }
theorem readable_rows:∀ t ∈ #[60,49].toList,Tryz.prog.readableRec t=true/\t<Tryz.prog.types.size:=by
  intro t ht
  have ht:t=60 \/ t=49:=by simpa using ht
  rcases ht with rfl | rfl
  · exact ⟨by kernel_rfl,of_decide_eq_true (by kernel_rfl)⟩
  · exact ⟨by kernel_rfl,of_decide_eq_true (by kernel_rfl)⟩
theorem array5 {α:Type} {cs:Array α} (h:cs.size=5):∃ c0 c1 c2 c3 c4,cs=#[c0,c1,c2,c3,c4]:=by
  obtain ⟨l⟩:=cs
  match l,h with
  | [c0,c1,c2,c3,c4],_=>exact ⟨c0,c1,c2,c3,c4,rfl⟩
theorem cellsAc:Tryz.prog.cellsOf 60=5:=by kernel_rfl
theorem cells1:Tryz.prog.cellsOf 5=1:=by kernel_rfl
theorem cells2:Tryz.prog.cellsOf 3=1:=by kernel_rfl
theorem cells3:Tryz.prog.cellsOf 49=1:=by kernel_rfl
set_option maxRecDepth 100000 in
/-- An access that is handed, opened. -/
theorem ac_open {H:Type} {enc:TypeId × Value->H} {W:World} {base:Nat} {sp:Nat->Bool} {held:Bool} {v:Value} {d:DataW H} {ps:List MemPlace}
    (hv:Value.okWide Tryz.prog W .any base 60 v) (h:DataW.Trod enc Tryz.prog W 0 sp held 60 v d ps) :
    ∃ a:Ac,v=acV a/\ps=[]/\0<=a.a:=by
  obtain ⟨cs,rfl,hsz⟩:=okWide_struct Tryz.underlying60 hv
  obtain ⟨c0,c1,c2,c3,c4,rfl⟩:=array5 (hsz.trans cellsAc)
  obtain ⟨fuel,hf⟩:=h
  obtain ⟨xs,n,_,hx,hl,hlen,hf⟩:=DataW.trod_struct Tryz.underlying60 hf
  match xs,hlen with
  | [y0,y1,y2,y3,y4],_ =>
    have h0:DataW.trod enc Tryz.prog W 0 sp held n 5 [c0]=some y0:=by simpa [Value.cells,cells1] using hf 0 _ rfl
    have h1:DataW.trod enc Tryz.prog W 0 sp held n 5 [c1]=some y1:=by simpa [Value.cells,cells1] using hf 1 _ rfl
    have h2:DataW.trod enc Tryz.prog W 0 sp held n 3 [c2]=some y2:=by simpa [Value.cells,cells2] using hf 2 _ rfl
    have h3:DataW.trod enc Tryz.prog W 0 sp held n 49 [c3]=some y3:=by simpa [Value.cells,cells3] using hf 3 _ rfl
    have h4:DataW.trod enc Tryz.prog W 0 sp held n 49 [c4]=some y4:=by simpa [Value.cells,cells3] using hf 4 _ rfl
    obtain ⟨k,e0,r0,w0⟩:=DataW.trod_int Tryz.underlying5 h0
    obtain ⟨m,e1,r1,w1⟩:=DataW.trod_int Tryz.underlying5 h1
    obtain ⟨l,e2,r2,w2⟩:=DataW.trod_int Tryz.underlying3 h2
    obtain ⟨x,e3,r3,w3⟩:=DataW.trod_int Tryz.underlying49 h3
    obtain ⟨y,e4,r4,w4⟩:=DataW.trod_int Tryz.underlying49 h4
    have bk:=bounds_u8 w0
    have bm:=bounds_u8 w1
    have bx:=bounds_u64 w3
    obtain ⟨k,rfl⟩:=Int.eq_ofNat_of_zero_le (show 0<=k by omega)
    obtain ⟨m,rfl⟩:=Int.eq_ofNat_of_zero_le (show 0<=m by omega)
    simp at e0 e1 e2 e3 e4
    subst e0 e1 e2 e3 e4
    simp only [Prod.mk.injEq] at hx
    refine ⟨⟨k,m,l,x,y⟩,rfl,?_,bx.1⟩
    rw [hx.2]
    simp [r0,r1,r2,r3,r4]
set_option maxRecDepth 100000 in
theorem contract (H:Type) (enc:TypeId × Value->H) (W:World) (base:Nat) (args:Array Value) (ds gs:List (DataW H)) (before:List MemPlace)
    (hval:∀ (j:Nat) t v,Tryz.f4.params[j]? = some t->args[j]? = some v->Value.okWide Tryz.prog W .any base t v)
    (hW:DataW.Whole enc Tryz.prog Tryz.f4.params.toList Rows.threadModesSpec.vars false W args.toList ds gs before) (hL:laidMetH Tryz.prog Rows.threadModesRow.laid W) :
    Calls Tryz.prog 4 args W fun e W'=>∃ v,e = .returned v/\Rows.threadModesSpec.post enc Tryz.prog Tryz.f4 false true false false W args v W':=by
  have hW':=hW
  obtain ⟨p,q,hA0,hV,rfl,hfz,hnd⟩:=hW
  have hA:DataW.TrodAll enc Tryz.prog W 0 (fun _=>true) true Tryz.f4.params.toList args.toList ds p:=hA0
  rw [Tryz.params4] at hA hval
  have hAk:=hA
  obtain ⟨v0,vs0,d0,ds0,p0,q0,hargs,rfl,rfl,h0,r0⟩:=trodAll_cons hA
  obtain ⟨v1,vs1,d1,ds1,p1,q1,rfl,rfl,rfl,h1,r1⟩:=trodAll_cons r0
  obtain ⟨rfl,rfl,rfl⟩:=trodAll_nil r1
  obtain rfl:args=#[v0,v1]:=by cases args;simp_all
  obtain ⟨rfl,rfl⟩:=trodVars_none hV
  obtain ⟨a,rfl,rfl,ha⟩:=ac_open (hval 0 60 v0 rfl rfl) h0
  obtain ⟨n,rfl,rfl,rfl,wn⟩:=open_int Tryz.underlying49 (hval 1 49 v1 rfl rfl) h1
  have bn:=bounds_u64 wn
  clear hA0
  simp only [List.append_nil] at hW' hAk
  refine (Thr.modes_any a n bn.1 (by omega) ha W (all_of hL)).mono fun e W' ⟨he,hg⟩=>?_
  subst he
  exact ⟨_,rfl,post_below (pv:=[]) hW' (fun _ _ _=>trodAll_cons_mk (shut_bool Tryz.underlying4 _) trodAll_mk0)
    (fun sp hsp=>trodAll_below laidOut hg (by rw [Tryz.params4];exact readable_rows) hAk (fun x hx=>by cases hx) hsp)
    (fun _ _=>rfl) (by simp) hg (ok_one (by kernel_rfl) rfl (okWide_bool_mk Tryz.underlying4 _))⟩
theorem laid_met (os:Os):laidMet Tryz.prog Rows.threadModesRow.laid ((laidWorld os).forCall (fun _ _=>0) ⟨#[],#[.agg #[.int .u8 0,.int .u8 0,.int .i64 0,.int .u64 0,.int .u64 0],.int .u64 0],[]⟩).memory :=
  laidMet_of_run' 8 (by kernel_rfl) (by kernel_rfl)
theorem reads (os:Os) {H:Type} (enc:TypeId × Value->H):∃ places,DataW.whole enc Tryz.prog ((laidWorld os).forCall (fun _ _=>0) ⟨#[],#[.agg #[.int .u8 0,.int .u8 0,.int .i64 0,.int .u64 0,.int .u64 0],.int .u64 0],[]⟩).memory Tryz.f4.params.toList Rows.threadModesSpec.vars false #[Value.agg #[.int .u8 0,.int .u8 0,.int .i64 0,.int .u64 0,.int .u64 0],.int .u64 0].toList 8=some ([.agg [.lit (.int .u8 0),.lit (.int .u8 0),.lit (.int .i64 0),.lit (.int .u64 0),.lit (.int .u64 0)],.lit (.int .u64 0)],[],places) :=
  ⟨[],by kernel_rfl⟩
set_option maxRecDepth 100000 in
theorem lifted (os:Os) (started:os.Started) (H:Type) (enc:TypeId × Value->H) (F:Stop.Interp) :
    ReturnsInHanded {} Tryz.checked os 4 .any ((OpenSpec.ofChange Rows.threadModesSpec).preRow enc Tryz.prog Tryz.f4 Rows.threadModesRow.domain false Rows.threadModesRow.laid) (((OpenSpec.ofChange Rows.threadModesSpec).at F).post enc Tryz.prog Tryz.f4 false true false false):=by
  obtain ⟨places,hx⟩:=reads os enc
  refine returnsInHanded_of_row (C:=Tryz.checked) (s:=OpenSpec.ofChange Rows.threadModesSpec) own started (by kernel_rfl) Tryz.func4
    (witness_row_at (enc:=enc) (C:=Tryz.checked) false (laidWorld os) #[.agg #[.int .u8 0,.int .u8 0,.int .i64 0,.int .u64 0,.int .u64 0],.int .u64 0] rfl (by kernel_rfl) (by kernel_rfl) (by kernel_rfl)
      (OpenSpec.preRow_of_cond 8 hx (by kernel_rfl) (fun k hk=>by cases hk) (by kernel_rfl) (laid_met os))) ?_
  intro W base args ds gs before hval hW _ _ _ hL _ _
  exact contract H enc W base args ds gs before hval hW hL
theorem said:Rows.ThreadModesSaid :=
  OpenClaim.holds_of_cond 4 Tryz.f4 rfl rfl rfl rfl rfl rfl rfl ⟨rfl,rfl,rfl,rfl,rfl⟩ rfl rfl rfl rfl rfl said_named Tryz.func4 said_joined said_inst said_wrap
    (fun os started H enc _ F=>by rw [OpenClaim.pre_eq_preRow];exact lifted os started H enc F)
theorem plain (f : FuncId) (fn : Func) (hf : Tryz.pinned.checked.prog.funcNamed "troth/trothlaw08.ThreadModes" = some f) (hfn : Tryz.pinned.checked.prog.funcs[f]? = some fn) :
    true=Tryz.pinned.checked.prog.looks []/\∀ (j:Nat) t,fn.params[j]? = some t->Tryz.pinned.checked.prog.wantsStandIn t=false:=by
  obtain rfl : f = 4 := Option.some.inj ((show Tryz.prog.funcNamed "troth/trothlaw08.ThreadModes" = some 4 by kernel_rfl).symm.trans hf) |>.symm
  obtain rfl:fn=Tryz.f4:=(Option.some.inj (Tryz.func4.symm.trans hfn)).symm
  refine ⟨by kernel_rfl,fun j t ht=>?_⟩
  rw [Tryz.params4] at ht
  have hm:t ∈ #[60,49]:=Array.mem_of_getElem? ht
  have hm:t=60 \/ t=49:=by simpa using hm
  rcases hm with rfl | rfl
  · exact (show Tryz.prog.wantsStandIn 60=false by kernel_rfl)
  · exact (show Tryz.prog.wantsStandIn 49=false by kernel_rfl)
theorem card:Rows.ThreadModesCardSaid :=
  Claim7.holds_tied_plain_at .later [] _ _ _ _ said (fun _ h=>by cases h) (by kernel_rfl) (fun _ h=>by cases h) threadModes_row_tie rfl ⟨rfl,rfl⟩ (by kernel_rfl) rfl plain (by kernel_rfl)
end Go.Proofs.YtagebkachdmnbaaGreatDoor.ThreadModes
end
