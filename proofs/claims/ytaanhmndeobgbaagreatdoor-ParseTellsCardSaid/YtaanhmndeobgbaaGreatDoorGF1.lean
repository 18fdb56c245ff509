/- Proved here: troth/trothlaw05.ParseTells answers true for every text (the test of any text, or where and why there is none, is what the document says), and leaves its argument alone. Condition: the tables troth/prog.modeTexts, troth/num.texts, internal/strconv.uint64pow10, math/bits.deBruijn32tab and math/bits.deBruijn64tab hold what their packages' own initialisers lay, which the card ties to those texts. -/
import Derived.Test.YtaanhmndeobgbaaGreatDoorGE8
import Derived.Test.YtaanhmndeobgbaaGreatDoorGE9
import Derived.Test.YtaanhmndeobgbaaGreatDoorGA9
import Derived.Test.YtaanhmndeobgbaaGreatDoorGF0
set_option maxRecDepth 100000
namespace Go.Proofs.YtaanhmndeobgbaaGreatDoor.ParseTells
open Go.RowKit Go.ChangeShapes Go.WideShapes Go.ChangeAt Card Go.Proofs.YtaanhmndeobgbaaGreatDoor.Expr Prog
theorem Tk : Tryz.prog.globalNamed "troth/prog.modeTexts" = some 0 := by kernel_rfl
theorem LJ:(Tryz.prog.globals[0]?).map (·.type)=some 184:=by kernel_rfl
theorem LK {w : World} (h : Num.Bi Tryz.prog w "troth/prog.modeTexts" modes) : wz w := by
 have hc:=fun (i:Nat) (hi:i<7)=>h.cell Tk i (by simpa [modes] using hi)
 refine ⟨?_,hc⟩;have h0:=hc 0 (by omega);apply Nat.lt_of_not_le;intro hle;have hn:w.heap[0]? = none:=Array.getElem?_eq_none hle;simp [World.cell?,hn] at h0
theorem U7 {W:World} (h:laidMetH Tryz.prog Rows.parseTellsRow.laid W):All W:=by
 have h':laidMet Tryz.prog Rows.parseTellsRow.laid W:=h
 refine ⟨⟨GG (tu MO GD Tryz.underlying210 Tryz.underlying9 (by kernel_rfl) (by kernel_rfl) (Lib.laidMet.reads h' ?_)),CP YZ MP Tryz.underlying207 Tryz.underlying59 (by kernel_rfl) (by kernel_rfl) (Lib.laidMet.reads h' ?_)⟩,
  LK (tu Tk LJ Tryz.underlying184 Tryz.underlying9 (by kernel_rfl) (by kernel_rfl) (Lib.laidMet.reads h' ?_))⟩
 ·exact .tail _ (.tail _ (.tail _ (.head _)))
 ·exact .tail _ (.tail _ (.head _))
 ·exact .tail _ (.tail _ (.tail _ (.tail _ (.head _))))
noncomputable def xn (os:Os):World :=
 { World.holding Tryz.prog os ⟨#[],#[],[]⟩ with heap:=(((((World.holding Tryz.prog os ⟨#[],#[],[]⟩).heap.modify 2 (yR Rows.laid_troth_num_texts)).modify 1 (yR Rows.laid_internal_strconv_uint64pow10)).modify
   4 (yR Rows.laid_math_bits_deBruijn32tab)).modify 5 (yR Rows.laid_math_bits_deBruijn64tab)).modify 0 (yR Rows.laid_troth_prog_modeTexts) }
theorem Bd:∀ t ∈ #[9].toList,Tryz.prog.readableRec t=true/\t<Tryz.prog.types.size:=by
 intro t ht;obtain rfl:t=9:=by simpa using ht
 exact ⟨by kernel_rfl,of_decide_eq_true (by kernel_rfl)⟩
theorem contract (H:Type) (enc:TypeId × Value->H) (W:World) (base:Nat) (args:Array Value) (ds gs:List (DataW H)) (before:List MemPlace)
  (hval:∀ (j:Nat) t v,Tryz.f3.params[j]? = some t->args[j]? = some v->Value.okWide Tryz.prog W .any base t v)
  (hW:DataW.Whole enc Tryz.prog Tryz.f3.params.toList Rows.parseTellsSpec.vars false W args.toList ds gs before) (hL:laidMetH Tryz.prog Rows.parseTellsRow.laid W) :
  Calls Tryz.prog 3 args W fun e W'=>∃ v,e = .returned v/\Rows.parseTellsSpec.post enc Tryz.prog Tryz.f3 false true false false W args v W':=by
 have hW':=hW;obtain ⟨p,q,JJ,hV,rfl,hfz,hnd⟩:=hW;have hA:DataW.TrodAll enc Tryz.prog W 0 (fun _=>true) true Tryz.f3.params.toList args.toList ds p:=JJ;rw [Tryz.params3] at hA hval;have hAk:=hA;obtain ⟨v0,vs0,d0,ds0,p0,q0,hargs,rfl,rfl,h0,r0⟩:=trodAll_cons hA;obtain ⟨rfl,rfl,rfl⟩:=trodAll_nil r0;obtain rfl:args=#[v0]:=by cases args;simp_all
 obtain ⟨rfl,rfl⟩:=trodVars_none hV;obtain ⟨s,rfl,rfl,rfl,ws⟩:=ChangeMaps.open_string Tryz.underlying9 (hval 0 9 v0 rfl rfl) h0;clear JJ;simp only [List.append_nil] at hW' hAk
 refine (fT.LF s W (by unfold maxLen at ws;omega) (U7 hL)).mono fun e W' ⟨he,hg⟩=>?_
 subst he;have hlt:∀ x ∈ ([]:List MemPlace),x.block<W.heap.size:=fun x hx=>nomatch hx
 exact ⟨_,rfl,Gz (pv:=[]) hW' (fun _ _ _=>trodAll_cons_mk (shut_bool Tryz.underlying4 _) trodAll_mk0)
  (fun sp hsp=>tq laidOut hg (by rw [Tryz.params3];exact Bd) hAk hlt hsp)
  (fun _ _=>rfl) (by simp) hg (ok_one (by kernel_rfl) rfl (okWide_bool_mk Tryz.underlying4 _))⟩
theorem Po (os:Os):laidMet Tryz.prog Rows.parseTellsRow.laid ((xn os).forCall (fun _ _=>0) ⟨#[],#[.string .empty],[]⟩).memory :=
 laidMet_of_run' 8 (by kernel_rfl) (by kernel_rfl)
theorem reads (os:Os) {H:Type} (enc:TypeId × Value->H):∃ places,DataW.whole enc Tryz.prog ((xn os).forCall (fun _ _=>0) ⟨#[],#[.string .empty],[]⟩).memory Tryz.f3.params.toList Rows.parseTellsSpec.vars false #[Value.string .empty].toList 8=some ([.lit (.string [])],[],places) :=
 ⟨[],by kernel_rfl⟩
theorem lifted (os:Os) (started:os.Started) (H:Type) (enc:TypeId × Value->H) (F:Stop.Interp) :
  ReturnsInHanded {} Tryz.checked os 3 .any ((OpenSpec.ofChange Rows.parseTellsSpec).preRow enc Tryz.prog Tryz.f3 Rows.parseTellsRow.domain false Rows.parseTellsRow.laid) (((OpenSpec.ofChange Rows.parseTellsSpec).at F).post enc Tryz.prog Tryz.f3 false true false false):=by
 obtain ⟨places,hx⟩:=reads os enc;refine returnsInHanded_of_row (C:=Tryz.checked) (s:=OpenSpec.ofChange Rows.parseTellsSpec) own started (by kernel_rfl) Tryz.func3
  (witness_row_at (enc:=enc) (C:=Tryz.checked) false (xn os) #[.string .empty] rfl (by kernel_rfl) (by kernel_rfl) (by kernel_rfl)
   (OpenSpec.preRow_of_cond 8 hx (by kernel_rfl) (fun k hk=>by cases hk) (by kernel_rfl) (Po os))) ?_
 intro W base args ds gs before hval hW _ _ _ hL _ _;exact contract H enc W base args ds gs before hval hW hL
theorem said:Rows.ParseTellsSaid :=
 OpenClaim.holds_of_cond 3 Tryz.f3 rfl rfl rfl rfl rfl rfl rfl ⟨rfl,rfl,rfl,rfl,rfl⟩ rfl rfl rfl rfl rfl IV Tryz.func3 F7 LG LH
  (fun os started H enc _ F=>by rw [OpenClaim.pre_eq_preRow];exact lifted os started H enc F)
theorem plain (f : FuncId) (fn : Func) (hf : Tryz.pinned.checked.prog.funcNamed "troth/trothlaw05.ParseTells" = some f) (hfn : Tryz.pinned.checked.prog.funcs[f]? = some fn) :
  true=Tryz.pinned.checked.prog.looks []/\∀ (j:Nat) t,fn.params[j]? = some t->Tryz.pinned.checked.prog.wantsStandIn t=false:=by
 obtain rfl : f = 3 := Option.some.inj ((show Tryz.prog.funcNamed "troth/trothlaw05.ParseTells" = some 3 by kernel_rfl).symm.trans hf) |>.symm;obtain rfl:fn=Tryz.f3:=(Option.some.inj (Tryz.func3.symm.trans hfn)).symm;refine ⟨by kernel_rfl,fun j t ht=>?_⟩;rw [Tryz.params3] at ht;have hm:t ∈ #[9]:=Array.mem_of_getElem? ht;obtain rfl:t=9:=by simpa using hm
 exact (show Tryz.prog.wantsStandIn 9=false by kernel_rfl)
theorem card:Rows.ParseTellsCardSaid :=
 Claim7.holds_tied_plain_at .later [] _ _ _ _ said (fun _ h=>by cases h) (by kernel_rfl) (fun _ h=>by cases h) parseTells_row_tie rfl ⟨rfl,rfl⟩ (by kernel_rfl) rfl plain (by kernel_rfl)
end Go.Proofs.YtaanhmndeobgbaaGreatDoor.ParseTells
