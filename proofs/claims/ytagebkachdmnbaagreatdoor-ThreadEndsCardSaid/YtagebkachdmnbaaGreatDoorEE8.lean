/- Proved here: troth/trothlaw08.ThreadEnds answers true for every text, every number of iterations and every row of numbers that are read (all ways of accesses end, and the most writes never grow), and leaves its arguments alone. Condition: the tables troth/check.kinds, troth/prog.modeTexts and troth/num.texts hold what their packages' own initialisers lay, which the card ties to those texts. -/
import Derived.Test.YtagebkachdmnbaaGreatDoorEE6
import Derived.Test.YtagebkachdmnbaaGreatDoorED5
import Derived.Test.YtagebkachdmnbaaGreatDoorEE7
import Derived.Test.YtagebkachdmnbaaGreatDoorEA7
import Derived.Lib.SmallJoins
section
namespace Go.Proofs.YtagebkachdmnbaaGreatDoor.ThreadEnds
open Go.RowKit Go.ChangeShapes Go.WideShapes Go.ChangeAt Go.Proofs.YtagebkachdmnbaaGreatDoor.Card Go.Proofs.YtagebkachdmnbaaGreatDoor.Expr Go.Proofs.YtagebkachdmnbaaGreatDoor.Prog Go.Proofs.YtagebkachdmnbaaGreatDoor.Chk Go.Proofs.YtagebkachdmnbaaGreatDoor.Thr
theorem laidOut:laidOutB Tryz.prog=true:=by kernel_rfl
theorem gTexts : Tryz.prog.globalNamed "troth/num.texts" = some 5 := by kernel_rfl
theorem gTextsType:(Tryz.prog.globals[5]?).map (·.type)=some 379:=by kernel_rfl
theorem own:ownKnob Tryz.prog.godebug=none:=by kernel_rfl
theorem textsAt_of {w : World} (h : Num.StrIs Tryz.prog w "troth/num.texts" Num.texts) : Num.TextsAt w := by
  have hc:=fun (i:Nat) (hi:i<15)=>h.cell gTexts i (by simpa [Num.texts] using hi)
  refine ⟨?_,hc⟩
  have h0:=hc 0 (by omega)
  apply Nat.lt_of_not_le
  intro hle
  have hn:w.heap[5]? = none:=Array.getElem?_eq_none hle
  simp [World.cell?,hn] at h0
theorem gMode : Tryz.prog.globalNamed "troth/prog.modeTexts" = some 4 := by kernel_rfl
theorem gModeType:(Tryz.prog.globals[4]?).map (·.type)=some 378:=by kernel_rfl
theorem modeAt_of {w : World} (h : Num.StrIs Tryz.prog w "troth/prog.modeTexts" modes) : ModeAt w := by
  have hc:=fun (i:Nat) (hi:i<7)=>h.cell gMode i (by simpa [modes] using hi)
  refine ⟨?_,hc⟩
  have h0:=hc 0 (by omega)
  apply Nat.lt_of_not_le
  intro hle
  have hn:w.heap[4]? = none:=Array.getElem?_eq_none hle
  simp [World.cell?,hn] at h0
theorem all_of {W:World} (h:laidMetH Tryz.prog Rows.threadEndsRow.laid W):AllK W:=by
  have h':laidMet Tryz.prog Rows.threadEndsRow.laid W:=h
  refine ⟨⟨⟨textsAt_of (strs_of_reads gTexts gTextsType Tryz.underlying379 Tryz.underlying9 (by kernel_rfl) (by kernel_rfl) (Lib.laidMet.reads h' ?_)),trivial⟩,
    modeAt_of (strs_of_reads gMode gModeType Tryz.underlying378 Tryz.underlying9 (by kernel_rfl) (by kernel_rfl) (Lib.laidMet.reads h' ?_))⟩,kindAt_of (Lib.laidMet.reads h' ?_)⟩
  · exact .head _
  · exact .tail _ (.head _)
  · exact .tail _ (.tail _ (.head _))
noncomputable def laidWorld (os:Os):World :=
  { World.holding Tryz.prog os ⟨#[],#[],[]⟩ with heap:=(((World.holding Tryz.prog os ⟨#[],#[],[]⟩).heap.modify 5 (layOne Rows.laid_troth_num_texts)).modify 4 (layOne Rows.laid_troth_prog_modeTexts)).modify 0 layKinds }
theorem readable_rows:∀ t ∈ #[9,5,27].toList,Tryz.prog.readableRec t=true/\t<Tryz.prog.types.size:=by
  intro t ht
  have ht:t=9 \/ t=5 \/ t=27:=by simpa using ht
  rcases ht with rfl | rfl | rfl
  · exact ⟨by kernel_rfl,of_decide_eq_true (by kernel_rfl)⟩
  · exact ⟨by kernel_rfl,of_decide_eq_true (by kernel_rfl)⟩
  · exact ⟨by kernel_rfl,of_decide_eq_true (by kernel_rfl)⟩
set_option maxRecDepth 100000 in
theorem contract (H:Type) (enc:TypeId × Value->H) (W:World) (base:Nat) (args:Array Value) (ds gs:List (DataW H)) (before:List MemPlace)
    (hval:∀ (j:Nat) t v,Tryz.f5.params[j]? = some t->args[j]? = some v->Value.okWide Tryz.prog W .any base t v)
    (hW:DataW.Whole enc Tryz.prog Tryz.f5.params.toList Rows.threadEndsSpec.vars false W args.toList ds gs before) (hL:laidMetH Tryz.prog Rows.threadEndsRow.laid W) :
    Calls Tryz.prog 5 args W fun e W'=>∃ v,e = .returned v/\Rows.threadEndsSpec.post enc Tryz.prog Tryz.f5 false true false false W args v W':=by
  have hW':=hW
  obtain ⟨p,q,hA0,hV,rfl,hfz,hnd⟩:=hW
  have hA:DataW.TrodAll enc Tryz.prog W 0 (fun _=>true) true Tryz.f5.params.toList args.toList ds p:=hA0
  rw [Tryz.params5] at hA hval
  have hAk:=hA
  obtain ⟨v0,vs0,d0,ds0,p0,q0,hargs,rfl,rfl,h0,r0⟩:=trodAll_cons hA
  obtain ⟨v1,vs1,d1,ds1,p1,q1,rfl,rfl,rfl,h1,r1⟩:=trodAll_cons r0
  obtain ⟨v2,vs2,d2,ds2,p2,q2,rfl,rfl,rfl,h2,r2⟩:=trodAll_cons r1
  obtain ⟨rfl,rfl,rfl⟩:=trodAll_nil r2
  obtain rfl:args=#[v0,v1,v2]:=by cases args;simp_all
  obtain ⟨rfl,rfl⟩:=trodVars_none hV
  obtain ⟨s,rfl,rfl,rfl,ws⟩:=ChangeMaps.open_string Tryz.underlying9 (hval 0 9 v0 rfl rfl) h0
  obtain ⟨n,rfl,rfl,rfl,wn⟩:=open_int Tryz.underlying5 (hval 1 5 v1 rfl rfl) h1
  obtain ⟨pr,lr,cr,rfl,hR⟩:=urow_open (hval 2 27 v2 rfl rfl) h2
  clear hA0
  simp only [List.append_nil,List.nil_append] at hW' hAk
  have hlt:∀ x ∈ p2,x.block<W.heap.size:=fun x hx=>hW'.lt x hx
  have hall:Calls Tryz.prog 5 #[.string s,.int .u8 n,.slice pr lr cr] W (Go.Proofs.YtagebkachdmnbaaGreatDoor.Mem.Made (.returned (.bool true)) W):=by
    by_cases hl:100<lr
    · exact Thr.ends_much s n pr lr cr hl W (all_of hL)
    · obtain ⟨u,hu,h64,hr⟩:=hR (by omega)
      subst hu
      exact Thr.ends_any s (by unfold maxLen at ws;omega) n u h64 pr cr W hr (by omega) (all_of hL)
  refine hall.mono fun e W' ⟨he,hg⟩=>?_
  subst he
  exact ⟨_,rfl,post_below (pv:=[]) hW' (fun _ _ _=>trodAll_cons_mk (shut_bool Tryz.underlying4 _) trodAll_mk0)
    (fun sp hsp=>trodAll_below laidOut hg (by rw [Tryz.params5];exact readable_rows) hAk hlt hsp)
    (fun _ _=>rfl) (by simp) hg (ok_one (by kernel_rfl) rfl (okWide_bool_mk Tryz.underlying4 _))⟩
theorem laid_met (os:Os):laidMet Tryz.prog Rows.threadEndsRow.laid ((laidWorld os).forCall (fun _ _=>0) ⟨#[],#[.string .empty,.int .u8 0,.slice none 0 0],[]⟩).memory :=
  laidMet_of_run' 8 (by kernel_rfl) (by kernel_rfl)
theorem reads (os:Os) {H:Type} (enc:TypeId × Value->H):∃ places,DataW.whole enc Tryz.prog ((laidWorld os).forCall (fun _ _=>0) ⟨#[],#[.string .empty,.int .u8 0,.slice none 0 0],[]⟩).memory Tryz.f5.params.toList Rows.threadEndsSpec.vars false #[Value.string .empty,.int .u8 0,.slice none 0 0].toList 8=some ([.lit (.string []),.lit (.int .u8 0),.nil],[],places) :=
  ⟨[],by kernel_rfl⟩
set_option maxRecDepth 100000 in
theorem lifted (os:Os) (started:os.Started) (H:Type) (enc:TypeId × Value->H) (F:Stop.Interp) :
    ReturnsInHanded {} Tryz.checked os 5 .any ((OpenSpec.ofChange Rows.threadEndsSpec).preRow enc Tryz.prog Tryz.f5 Rows.threadEndsRow.domain false Rows.threadEndsRow.laid) (((OpenSpec.ofChange Rows.threadEndsSpec).at F).post enc Tryz.prog Tryz.f5 false true false false):=by
  obtain ⟨places,hx⟩:=reads os enc
  refine returnsInHanded_of_row (C:=Tryz.checked) (s:=OpenSpec.ofChange Rows.threadEndsSpec) own started (by kernel_rfl) Tryz.func5
    (witness_row_at (enc:=enc) (C:=Tryz.checked) false (laidWorld os) #[.string .empty,.int .u8 0,.slice none 0 0] rfl (by kernel_rfl) (by kernel_rfl) (by kernel_rfl)
      (OpenSpec.preRow_of_cond 8 hx (by kernel_rfl) (fun k hk=>by cases hk) (by kernel_rfl) (laid_met os))) ?_
  intro W base args ds gs before hval hW _ _ _ hL _ _
  exact contract H enc W base args ds gs before hval hW hL
theorem said:Rows.ThreadEndsSaid :=
  OpenClaim.holds_of_cond 5 Tryz.f5 rfl rfl rfl rfl rfl rfl rfl ⟨rfl,rfl,rfl,rfl,rfl⟩ rfl rfl rfl rfl rfl said_named Tryz.func5 said_joined said_inst said_wrap
    (fun os started H enc _ F=>by rw [OpenClaim.pre_eq_preRow];exact lifted os started H enc F)
theorem plain (f : FuncId) (fn : Func) (hf : Tryz.pinned.checked.prog.funcNamed "troth/trothlaw08.ThreadEnds" = some f) (hfn : Tryz.pinned.checked.prog.funcs[f]? = some fn) :
    true=Tryz.pinned.checked.prog.looks []/\∀ (j:Nat) t,fn.params[j]? = some t->Tryz.pinned.checked.prog.wantsStandIn t=false:=by
  obtain rfl : f = 5 := Option.some.inj ((show Tryz.prog.funcNamed "troth/trothlaw08.ThreadEnds" = some 5 by kernel_rfl).symm.trans hf) |>.symm
  obtain rfl:fn=Tryz.f5:=(Option.some.inj (Tryz.func5.symm.trans hfn)).symm
  refine ⟨by kernel_rfl,fun j t ht=>?_⟩
  rw [Tryz.params5] at ht
  have hm:t ∈ #[9,5,27]:=Array.mem_of_getElem? ht
  have hm:t=9 \/ t=5 \/ t=27:=by simpa using hm
  rcases hm with rfl | rfl | rfl
  · exact (show Tryz.prog.wantsStandIn 9=false by kernel_rfl)
  · exact (show Tryz.prog.wantsStandIn 5=false by kernel_rfl)
  · exact (show Tryz.prog.wantsStandIn 27=false by kernel_rfl)
theorem card:Rows.ThreadEndsCardSaid :=
  Claim7.holds_tied_plain_at .later [] _ _ _ _ said (fun _ h=>by cases h) (by kernel_rfl) (fun _ h=>by cases h) threadEnds_row_tie rfl ⟨rfl,rfl⟩ (by kernel_rfl) rfl plain (by kernel_rfl)
end Go.Proofs.YtagebkachdmnbaaGreatDoor.ThreadEnds
end
