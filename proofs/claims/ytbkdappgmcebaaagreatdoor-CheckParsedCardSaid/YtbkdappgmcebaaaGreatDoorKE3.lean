/- Proved here: troth/trothlaw06.CheckParsed answers true for every text (a test that is parsed may be asked, but for two starting values of one location, and no thread; what Check passes is written and parsed as itself), and leaves its argument alone. Condition: the tables troth/check.kinds, troth/prog.modeTexts, troth/num.texts, internal/strconv.uint64pow10, math/bits.deBruijn32tab and math/bits.deBruijn64tab hold what their packages' own initialisers lay, which the card ties to those texts. -/
import Derived.Test.YtbkdappgmcebaaaGreatDoorKE0
import Derived.Test.YtbkdappgmcebaaaGreatDoorKD6
import Derived.Test.YtbkdappgmcebaaaGreatDoorKE1
import Derived.Test.YtbkdappgmcebaaaGreatDoorKE2
section
namespace Go.Proofs.YtbkdappgmcebaaaGreatDoor.CheckParsed
open Go.RowKit Go.ChangeShapes Go.WideShapes Go.ChangeAt Go.Proofs.YtbkdappgmcebaaaGreatDoor.Card Go.Proofs.YtbkdappgmcebaaaGreatDoor.Expr Go.Proofs.YtbkdappgmcebaaaGreatDoor.Prog Go.Proofs.YtbkdappgmcebaaaGreatDoor.Chk
theorem laidOut:laidOutB Tryz.prog=true:=by kernel_rfl
theorem gMode : Tryz.prog.globalNamed "troth/prog.modeTexts" = some 1 := by kernel_rfl
theorem gModeType:(Tryz.prog.globals[1]?).map (·.type)=some 232:=by kernel_rfl
theorem modeAt_of {w : World} (h : Num.StrIs Tryz.prog w "troth/prog.modeTexts" modes) : ModeAt w := by
  have hc:=fun (i:Nat) (hi:i<7)=>h.cell gMode i (by simpa [modes] using hi)
  refine ⟨?_,hc⟩
  have h0:=hc 0 (by omega)
  apply Nat.lt_of_not_le
  intro hle
  have hn:w.heap[1]? = none:=Array.getElem?_eq_none hle
  simp [World.cell?,hn] at h0
theorem all_of {W:World} (h:laidMetH Tryz.prog Rows.checkParsedRow.laid W):AllK W:=by
  have h':laidMet Tryz.prog Rows.checkParsedRow.laid W:=h
  refine ⟨⟨⟨textsAt_of (strs_of_reads gTexts gTextsType Tryz.underlying259 Tryz.underlying9 (by kernel_rfl) (by kernel_rfl) (Lib.laidMet.reads h' ?_)),tab_of_reads gPow gPowType Tryz.underlying256 Tryz.underlying50 (by kernel_rfl) (by kernel_rfl) (Lib.laidMet.reads h' ?_)⟩,
    modeAt_of (strs_of_reads gMode gModeType Tryz.underlying232 Tryz.underlying9 (by kernel_rfl) (by kernel_rfl) (Lib.laidMet.reads h' ?_))⟩,kindAt_of (Lib.laidMet.reads h' ?_)⟩
  · exact .tail _ (.tail _ (.tail _ (.head _)))
  · exact .tail _ (.tail _ (.head _))
  · exact .tail _ (.tail _ (.tail _ (.tail _ (.head _))))
  · exact .tail _ (.tail _ (.tail _ (.tail _ (.tail _ (.head _)))))
noncomputable def laidWorld (os:Os):World :=
  { World.holding Tryz.prog os ⟨#[],#[],[]⟩ with heap:=((((((World.holding Tryz.prog os ⟨#[],#[],[]⟩).heap.modify 3 (layOne Rows.laid_troth_num_texts)).modify 2 (layOne Rows.laid_internal_strconv_uint64pow10)).modify
      5 (layOne Rows.laid_math_bits_deBruijn32tab)).modify 6 (layOne Rows.laid_math_bits_deBruijn64tab)).modify 1 (layOne Rows.laid_troth_prog_modeTexts)).modify 0 layKinds }
theorem readable_rows:∀ t ∈ #[9].toList,Tryz.prog.readableRec t=true/\t<Tryz.prog.types.size:=by
  intro t ht
  obtain rfl:t=9:=by simpa using ht
  exact ⟨by kernel_rfl,of_decide_eq_true (by kernel_rfl)⟩
set_option maxRecDepth 100000 in
theorem contract (H:Type) (enc:TypeId × Value->H) (W:World) (base:Nat) (args:Array Value) (ds gs:List (DataW H)) (before:List MemPlace)
    (hval:∀ (j:Nat) t v,Tryz.f5.params[j]? = some t->args[j]? = some v->Value.okWide Tryz.prog W .any base t v)
    (hW:DataW.Whole enc Tryz.prog Tryz.f5.params.toList Rows.checkParsedSpec.vars false W args.toList ds gs before) (hL:laidMetH Tryz.prog Rows.checkParsedRow.laid W) :
    Calls Tryz.prog 5 args W fun e W'=>∃ v,e = .returned v/\Rows.checkParsedSpec.post enc Tryz.prog Tryz.f5 false true false false W args v W':=by
  have hW':=hW
  obtain ⟨p,q,hA0,hV,rfl,hfz,hnd⟩:=hW
  have hA:DataW.TrodAll enc Tryz.prog W 0 (fun _=>true) true Tryz.f5.params.toList args.toList ds p:=hA0
  rw [Tryz.params5] at hA hval
  have hAk:=hA
  obtain ⟨v0,vs0,d0,ds0,p0,q0,hargs,rfl,rfl,h0,r0⟩:=trodAll_cons hA
  obtain ⟨rfl,rfl,rfl⟩:=trodAll_nil r0
  obtain rfl:args=#[v0]:=by cases args;simp_all
  obtain ⟨rfl,rfl⟩:=trodVars_none hV
  obtain ⟨s,rfl,rfl,rfl,ws⟩:=ChangeMaps.open_string Tryz.underlying9 (hval 0 9 v0 rfl rfl) h0
  clear hA0
  simp only [List.append_nil] at hW' hAk
  refine (parsed_any s W (by unfold maxLen at ws;omega) (all_of hL)).mono fun e W' ⟨he,hg⟩=>?_
  subst he
  exact ⟨_,rfl,post_below (pv:=[]) hW' (fun _ _ _=>trodAll_cons_mk (shut_bool Tryz.underlying4 _) trodAll_mk0)
    (fun sp hsp=>trodAll_below laidOut hg (by rw [Tryz.params5];exact readable_rows) hAk (fun x hx=>by cases hx) hsp)
    (fun _ _=>rfl) (by simp) hg (ok_one (by kernel_rfl) rfl (okWide_bool_mk Tryz.underlying4 _))⟩
theorem laid_met (os:Os):laidMet Tryz.prog Rows.checkParsedRow.laid ((laidWorld os).forCall (fun _ _=>0) ⟨#[],#[.string .empty],[]⟩).memory :=
  laidMet_of_run' 8 (by kernel_rfl) (by kernel_rfl)
theorem reads (os:Os) {H:Type} (enc:TypeId × Value->H):∃ places,DataW.whole enc Tryz.prog ((laidWorld os).forCall (fun _ _=>0) ⟨#[],#[.string .empty],[]⟩).memory Tryz.f5.params.toList Rows.checkParsedSpec.vars false #[Value.string .empty].toList 8=some ([.lit (.string [])],[],places) :=
  ⟨[],by kernel_rfl⟩
set_option maxRecDepth 100000 in
theorem lifted (os:Os) (started:os.Started) (H:Type) (enc:TypeId × Value->H) (F:Stop.Interp) :
    ReturnsInHanded {} Tryz.checked os 5 .any ((OpenSpec.ofChange Rows.checkParsedSpec).preRow enc Tryz.prog Tryz.f5 Rows.checkParsedRow.domain false Rows.checkParsedRow.laid) (((OpenSpec.ofChange Rows.checkParsedSpec).at F).post enc Tryz.prog Tryz.f5 false true false false):=by
  obtain ⟨places,hx⟩:=reads os enc
  refine returnsInHanded_of_row (C:=Tryz.checked) (s:=OpenSpec.ofChange Rows.checkParsedSpec) own started (by kernel_rfl) Tryz.func5
    (witness_row_at (enc:=enc) (C:=Tryz.checked) false (laidWorld os) #[.string .empty] rfl (by kernel_rfl) (by kernel_rfl) (by kernel_rfl)
      (OpenSpec.preRow_of_cond 8 hx (by kernel_rfl) (fun k hk=>by cases hk) (by kernel_rfl) (laid_met os))) ?_
  intro W base args ds gs before hval hW _ _ _ hL _ _
  exact contract H enc W base args ds gs before hval hW hL
theorem said:Rows.CheckParsedSaid :=
  OpenClaim.holds_of_cond 5 Tryz.f5 rfl rfl rfl rfl rfl rfl rfl ⟨rfl,rfl,rfl,rfl,rfl⟩ rfl rfl rfl rfl rfl said_named Tryz.func5 said_joined said_inst said_wrap
    (fun os started H enc _ F=>by rw [OpenClaim.pre_eq_preRow];exact lifted os started H enc F)
theorem plain (f : FuncId) (fn : Func) (hf : Tryz.pinned.checked.prog.funcNamed "troth/trothlaw06.CheckParsed" = some f) (hfn : Tryz.pinned.checked.prog.funcs[f]? = some fn) :
    true=Tryz.pinned.checked.prog.looks []/\∀ (j:Nat) t,fn.params[j]? = some t->Tryz.pinned.checked.prog.wantsStandIn t=false:=by
  obtain rfl : f = 5 := Option.some.inj ((show Tryz.prog.funcNamed "troth/trothlaw06.CheckParsed" = some 5 by kernel_rfl).symm.trans hf) |>.symm
  obtain rfl:fn=Tryz.f5:=(Option.some.inj (Tryz.func5.symm.trans hfn)).symm
  refine ⟨by kernel_rfl,fun j t ht=>?_⟩
  rw [Tryz.params5] at ht
  have hm:t ∈ #[9]:=Array.mem_of_getElem? ht
  obtain rfl:t=9:=by simpa using hm
  exact (show Tryz.prog.wantsStandIn 9=false by kernel_rfl)
theorem card:Rows.CheckParsedCardSaid :=
  Claim7.holds_tied_plain_at .later [] _ _ _ _ said (fun _ h=>by cases h) (by kernel_rfl) (fun _ h=>by cases h) checkParsed_row_tie rfl ⟨rfl,rfl⟩ (by kernel_rfl) rfl plain (by kernel_rfl)
end Go.Proofs.YtbkdappgmcebaaaGreatDoor.CheckParsed
end
