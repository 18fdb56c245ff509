/- Proved here: troth/trothlaw06.CheckTells answers true for every test of rows and every text of locations (whether a test may be asked, its locations and its starting values are what the document says, of tests that are not too great or too deep, whose threads and expressions end where their rows do), and leaves its arguments alone. Condition: the tables troth/check.kinds, troth/prog.modeTexts and troth/num.texts hold what their packages' own initialisers lay, which the card ties to those texts. -/
import Derived.Test.YtbkdappgmcebaaaGreatDoorLE3
import Derived.Test.YtbkdappgmcebaaaGreatDoorLD2
import Derived.Test.YtbkdappgmcebaaaGreatDoorLE2
import Derived.Test.YtbkdappgmcebaaaGreatDoorLE4
section
namespace Go.Proofs.YtbkdappgmcebaaaGreatDoor.CheckTells
open Go.RowKit Go.ChangeShapes Go.WideShapes Go.ChangeAt Go.Proofs.YtbkdappgmcebaaaGreatDoor.Card Go.Proofs.YtbkdappgmcebaaaGreatDoor.Expr Go.Proofs.YtbkdappgmcebaaaGreatDoor.Prog Go.Proofs.YtbkdappgmcebaaaGreatDoor.Chk
theorem laidOut:laidOutB Tryz.prog=true:=by kernel_rfl
theorem gTexts : Tryz.prog.globalNamed "troth/num.texts" = some 3 := by kernel_rfl
theorem gTextsType:(Tryz.prog.globals[3]?).map (·.type)=some 259:=by kernel_rfl
theorem own:ownKnob Tryz.prog.godebug=none:=by kernel_rfl
theorem textsAt_of {w : World} (h : Num.StrIs Tryz.prog w "troth/num.texts" Num.texts) : Num.TextsAt w := by
  have hc:=fun (i:Nat) (hi:i<15)=>h.cell gTexts i (by simpa [Num.texts] using hi)
  refine ⟨?_,hc⟩
  have h0:=hc 0 (by omega)
  apply Nat.lt_of_not_le
  intro hle
  have hn:w.heap[3]? = none:=Array.getElem?_eq_none hle
  simp [World.cell?,hn] at h0
theorem gMode : Tryz.prog.globalNamed "troth/prog.modeTexts" = some 1 := by kernel_rfl
theorem gModeType:(Tryz.prog.globals[1]?).map (·.type)=some 232:=by kernel_rfl
theorem modeAt_of {w : World} (h : Num.StrIs Tryz.prog w "troth/prog.modeTexts" modes) : ModeAt w := by
  have hc:=fun (i:Nat) (hi:i<7)=>h.cell gMode i (by simpa [modes] using hi)
  refine ⟨?_,hc⟩
  have h0:=hc 0 (by omega)
  apply Nat.lt_of_not_le
  intro hle
  have hn:w.heap[1]? = none:=Array.getElem?_eq_none hle
  simp [World.cell?,hn] at h0
theorem all_of {W:World} (h:laidMetH Tryz.prog Rows.checkTellsRow.laid W):AllK W:=by
  have h':laidMet Tryz.prog Rows.checkTellsRow.laid W:=h
  refine ⟨⟨⟨textsAt_of (strs_of_reads gTexts gTextsType Tryz.underlying259 Tryz.underlying9 (by kernel_rfl) (by kernel_rfl) (Lib.laidMet.reads h' ?_)),trivial⟩,
    modeAt_of (strs_of_reads gMode gModeType Tryz.underlying232 Tryz.underlying9 (by kernel_rfl) (by kernel_rfl) (Lib.laidMet.reads h' ?_))⟩,kindAt_of (Lib.laidMet.reads h' ?_)⟩
  · exact .head _
  · exact .tail _ (.head _)
  · exact .tail _ (.tail _ (.head _))
noncomputable def laidWorld (os:Os):World :=
  { World.holding Tryz.prog os ⟨#[],#[],[]⟩ with heap:=(((World.holding Tryz.prog os ⟨#[],#[],[]⟩).heap.modify 3 (layOne Rows.laid_troth_num_texts)).modify 1 (layOne Rows.laid_troth_prog_modeTexts)).modify 0 layKinds }
theorem readable_rows:∀ t ∈ #[37,9].toList,Tryz.prog.readableRec t=true/\t<Tryz.prog.types.size:=by
  intro t ht
  obtain rfl | rfl:t=37 \/ t=9:=by simpa using ht
  all_goals exact ⟨by kernel_rfl,of_decide_eq_true (by kernel_rfl)⟩
set_option maxRecDepth 100000 in
theorem contract (H:Type) (enc:TypeId × Value->H) (W:World) (base:Nat) (args:Array Value) (ds gs:List (DataW H)) (before:List MemPlace)
    (hval:∀ (j:Nat) t v,Tryz.f4.params[j]? = some t->args[j]? = some v->Value.okWide Tryz.prog W .any base t v)
    (hW:DataW.Whole enc Tryz.prog Tryz.f4.params.toList Rows.checkTellsSpec.vars false W args.toList ds gs before) (hL:laidMetH Tryz.prog Rows.checkTellsRow.laid W) :
    Calls Tryz.prog 4 args W fun e W'=>∃ v,e = .returned v/\Rows.checkTellsSpec.post enc Tryz.prog Tryz.f4 false true false false W args v W':=by
  have hW':=hW
  obtain ⟨p,q,hA0,hV,rfl,hfz,hnd⟩:=hW
  have hA:DataW.TrodAll enc Tryz.prog W 0 (fun _=>true) true Tryz.f4.params.toList args.toList ds p:=hA0
  rw [Tryz.params4] at hA hval
  have hAk:=hA
  obtain ⟨v0,vs0,d0,ds0,p0,q0,hargs,rfl,rfl,h0,r0⟩:=trodAll_cons hA
  obtain ⟨v1,vs1,d1,ds1,p1,q1,rfl,rfl,rfl,h1,r1⟩:=trodAll_cons r0
  obtain ⟨rfl,rfl,rfl⟩:=trodAll_nil r1
  obtain rfl:args=#[v0,v1]:=by cases args;simp_all
  obtain ⟨rfl,rfl⟩:=trodVars_none hV
  obtain ⟨pi,ni,ci,pt,nt,ct,al,pa,na,ca,rfl,hS⟩:=test_open (hval 0 37 v0 rfl rfl) h0
  obtain ⟨s,rfl,rfl,rfl,ws⟩:=ChangeMaps.open_string Tryz.underlying9 (hval 1 9 v1 rfl rfl) h1
  clear hA0
  simp only [List.append_nil] at hW' hAk
  refine (Chk.tells_any pi ni ci pt nt ct al pa na ca s W hS (by unfold maxLen at ws;omega) (all_of hL)).mono fun e W' ⟨he,hg⟩=>?_
  subst he
  have hlt:∀ x ∈ p0,x.block<W.heap.size:=fun x hx=>hW'.lt x hx
  exact ⟨_,rfl,post_below (pv:=[]) hW' (fun _ _ _=>trodAll_cons_mk (shut_bool Tryz.underlying4 _) trodAll_mk0)
    (fun sp hsp=>trodAll_below laidOut hg (by rw [Tryz.params4];exact readable_rows) hAk hlt hsp)
    (fun _ _=>rfl) (by simp) hg (ok_one (by kernel_rfl) rfl (okWide_bool_mk Tryz.underlying4 _))⟩
theorem laid_met (os:Os):laidMet Tryz.prog Rows.checkTellsRow.laid ((laidWorld os).forCall (fun _ _=>0) ⟨#[],#[.agg #[.slice none 0 0,.slice none 0 0,.bool false,.slice none 0 0],.string .empty],[]⟩).memory :=
  laidMet_of_run' 8 (by kernel_rfl) (by kernel_rfl)
theorem reads (os:Os) {H:Type} (enc:TypeId × Value->H):∃ places,DataW.whole enc Tryz.prog ((laidWorld os).forCall (fun _ _=>0) ⟨#[],#[.agg #[.slice none 0 0,.slice none 0 0,.bool false,.slice none 0 0],.string .empty],[]⟩).memory Tryz.f4.params.toList Rows.checkTellsSpec.vars false #[Value.agg #[.slice none 0 0,.slice none 0 0,.bool false,.slice none 0 0],.string .empty].toList 8=some ([.agg [.nil,.nil,.lit (.bool false),.nil],.lit (.string [])],[],places) :=
  ⟨[],by kernel_rfl⟩
set_option maxRecDepth 100000 in
theorem lifted (os:Os) (started:os.Started) (H:Type) (enc:TypeId × Value->H) (F:Stop.Interp) :
    ReturnsInHanded {} Tryz.checked os 4 .any ((OpenSpec.ofChange Rows.checkTellsSpec).preRow enc Tryz.prog Tryz.f4 Rows.checkTellsRow.domain false Rows.checkTellsRow.laid) (((OpenSpec.ofChange Rows.checkTellsSpec).at F).post enc Tryz.prog Tryz.f4 false true false false):=by
  obtain ⟨places,hx⟩:=reads os enc
  refine returnsInHanded_of_row (C:=Tryz.checked) (s:=OpenSpec.ofChange Rows.checkTellsSpec) own started (by kernel_rfl) Tryz.func4
    (witness_row_at (enc:=enc) (C:=Tryz.checked) false (laidWorld os) #[.agg #[.slice none 0 0,.slice none 0 0,.bool false,.slice none 0 0],.string .empty] rfl (by kernel_rfl) (by kernel_rfl) (by kernel_rfl)
      (OpenSpec.preRow_of_cond 8 hx (by kernel_rfl) (fun k hk=>by cases hk) (by kernel_rfl) (laid_met os))) ?_
  intro W base args ds gs before hval hW _ _ _ hL _ _
  exact contract H enc W base args ds gs before hval hW hL
theorem said:Rows.CheckTellsSaid :=
  OpenClaim.holds_of_cond 4 Tryz.f4 rfl rfl rfl rfl rfl rfl rfl ⟨rfl,rfl,rfl,rfl,rfl⟩ rfl rfl rfl rfl rfl said_named Tryz.func4 said_joined said_inst said_wrap
    (fun os started H enc _ F=>by rw [OpenClaim.pre_eq_preRow];exact lifted os started H enc F)
theorem plain (f : FuncId) (fn : Func) (hf : Tryz.pinned.checked.prog.funcNamed "troth/trothlaw06.CheckTells" = some f) (hfn : Tryz.pinned.checked.prog.funcs[f]? = some fn) :
    true=Tryz.pinned.checked.prog.looks []/\∀ (j:Nat) t,fn.params[j]? = some t->Tryz.pinned.checked.prog.wantsStandIn t=false:=by
  obtain rfl : f = 4 := Option.some.inj ((show Tryz.prog.funcNamed "troth/trothlaw06.CheckTells" = some 4 by kernel_rfl).symm.trans hf) |>.symm
  obtain rfl:fn=Tryz.f4:=(Option.some.inj (Tryz.func4.symm.trans hfn)).symm
  refine ⟨by kernel_rfl,fun j t ht=>?_⟩
  rw [Tryz.params4] at ht
  have hm:t ∈ #[37,9]:=Array.mem_of_getElem? ht
  obtain rfl | rfl:t=37 \/ t=9:=by simpa using hm
  · exact (show Tryz.prog.wantsStandIn 37=false by kernel_rfl)
  · exact (show Tryz.prog.wantsStandIn 9=false by kernel_rfl)
theorem card:Rows.CheckTellsCardSaid :=
  Claim7.holds_tied_plain_at .later [] _ _ _ _ said (fun _ h=>by cases h) (by kernel_rfl) (fun _ h=>by cases h) checkTells_row_tie rfl ⟨rfl,rfl⟩ (by kernel_rfl) rfl plain (by kernel_rfl)
end Go.Proofs.YtbkdappgmcebaaaGreatDoor.CheckTells
end
