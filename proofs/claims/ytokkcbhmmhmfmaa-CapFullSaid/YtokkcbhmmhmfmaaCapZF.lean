/- Proved here: troth/trothlaw12.CapFull answers true for any starting numbers, any row of items and any item (in a memory made of them and capped, the items of each location lie one behind the other without a gap, the last one is a reservation, and what is no reservation of nobody's is as it was; an item that can still be added lies behind the last one of its location, and is no empty one; of more than 150 items, or a number of locations that may not be, it asks a memory that is known), and leaves its arguments alone. Condition: none. -/
import Derived.Test.YtokkcbhmmhmfmaaCapZE
import Derived.Test.YtokkcbhmmhmfmaaCapC
namespace Go.Proofs.Ytokkcbhmmhmfmaa.Cap
open Go.RowKit Go.ChangeShapes Go.WideShapes Go.ChangeAt Go.Joins Go.Proofs.Ytokkcbhmmhmfmaa.Mem Go.Deep Go.Proofs.Ytokkcbhmmhmfmaa.Mmr
theorem ritem1_cells : Try.prog.cellsOf 47 = 14 := by kernel_rfl
set_option maxRecDepth 100000 in
theorem rit_open {H : Type} {enc : TypeId × Value → H} {w : World} {base b0 : Nat} {sp : Nat → Bool} {held : Bool} {v : Value} {d : DataW H} {p : List MemPlace} (hv : Value.okWide Try.prog w .any b0 47 v) (h : DataW.Trod enc Try.prog w base sp held 47 v d p) :
    ∃ y : It, v = rtV y ∧ Rng y := by
  obtain ⟨cs, rfl, hsz⟩ := okWide_struct Try.underlying47 hv
  obtain ⟨n, hn⟩ := h
  have h14 : cs.size = 14 := hsz.trans ritem1_cells
  obtain ⟨y, hr, hf⟩ := item_open (cs := cs.toList) ((Array.length_toList ..).trans h14) hn
  refine ⟨y, congrArg Value.agg (Array.ext_getElem? fun i => ?_), hr⟩
  by_cases hi : i < 14
  · rw [← Array.getElem?_toList]; exact hf i hi
  · rw [Array.getElem?_eq_none (by rw [h14]; omega), Array.getElem?_eq_none (by show 14 ≤ i; omega)]
theorem own_capfull : ownKnob Try.prog.godebug = none := by kernel_rfl
theorem laidOut_capfull : laidOutB Try.prog = true := by kernel_rfl
theorem readable_capfull : ∀ t ∈ #[22, 35, 47].toList, Try.prog.readableRec t = true ∧ t < Try.prog.types.size := by
  intro t ht
  obtain rfl | rfl | rfl : t = 22 ∨ t = 35 ∨ t = 47 := by simpa using ht
  all_goals exact ⟨by kernel_rfl, of_decide_eq_true (by kernel_rfl)⟩
set_option maxRecDepth 100000 in
theorem capfull_contract (H : Type) (enc : TypeId × Value → H) (W : World) (base : Nat) (args : Array Value) (ds gs : List (DataW H)) (before : List MemPlace)
    (hval : ∀ (j : Nat) t v, Try.f6.params[j]? = some t → args[j]? = some v → Value.okWide Try.prog W .any base t v)
    (hW : DataW.Whole enc Try.prog Try.f6.params.toList Rows.capFullSpec.vars false W args.toList ds gs before) :
    Calls Try.prog 6 args W fun e W' => ∃ v, e = .returned v ∧ Rows.capFullSpec.post enc Try.prog Try.f6 false true false false W args v W' := by
  have hW' := hW
  obtain ⟨p, q, hA0, hV, rfl, hfz, hnd⟩ := hW
  have hA : DataW.TrodAll enc Try.prog W 0 (fun _ => true) true Try.f6.params.toList args.toList ds p := hA0
  rw [Try.params6] at hA hval
  have hAk := hA
  obtain ⟨v0, vs0, d0, ds0, p0, q0, hargs, rfl, rfl, h0, r0⟩ := trodAll_cons hA
  obtain ⟨v1, vs1, d1, ds1, p1, q1, rfl, rfl, rfl, h1, r1⟩ := trodAll_cons r0
  obtain ⟨v2, vs2, d2, ds2, p2, q2, rfl, rfl, rfl, h2, r2⟩ := trodAll_cons r1
  obtain ⟨rfl, rfl, rfl⟩ := trodAll_nil r2
  obtain rfl : args = #[v0, v1, v2] := by cases args; simp_all
  obtain ⟨rfl, rfl⟩ := trodVars_none hV
  obtain ⟨ps, start, cs, rfl, ls, hN⟩ := nums_open (hval 0 22 v0 rfl rfl) h0
  obtain ⟨pl, l, cl, rfl, ll, hL, _⟩ := ritems_open (hval 1 35 v1 rfl rfl) h1
  obtain ⟨x, rfl, hX⟩ := rit_open (hval 2 47 v2 rfl rfl) h2
  clear hA0
  simp only [List.append_nil] at hW' hAk
  refine (capfull_law start l x ps pl cs cl W hN hL ls ll hX).mono fun e W' ⟨he, hg⟩ => ?_
  subst he
  exact ⟨_, rfl, post_below (pv := []) hW' (fun _ _ _ => trodAll_cons_mk (shut_bool Try.underlying4 _) trodAll_mk0)
    (fun sp hsp => trodAll_below laidOut_capfull hg (by rw [Try.params6]; exact readable_capfull) hAk (fun x hx => hW'.lt x hx) hsp)
    (fun _ _ => rfl) (by simp) hg (ok_one (by kernel_rfl) rfl (okWide_bool_mk Try.underlying4 _))⟩
set_option maxRecDepth 100000 in
theorem capfull_lifted (os : Os) (started : os.Started) (H : Type) (enc : TypeId × Value → H) :
    ReturnsInHanded {} Try.checked os 6 .any (Rows.capFullSpec.pre6 enc Try.prog Try.f6 Rows.capFullRow.domain false) (Rows.capFullSpec.post enc Try.prog Try.f6 false true false false) := by
  refine returnsInHanded_of_change (C := Try.checked) own_capfull started (by kernel_rfl) Try.func6
    (ChangeSpec.witness6 (enc := enc) (C := Try.checked) false ⟨#[], #[.slice none 0 0, .slice none 0 0, rtV zeroX], []⟩ 8 (by kernel_rfl) (by kernel_rfl) (by kernel_rfl) (by kernel_rfl)) ?_
  intro W base args ds gs before hval hW _ _
  exact capfull_contract H enc W base args ds gs before hval hW
theorem capfull_holds : Rows.CapFullSaid :=
  OpenClaim.holds_of_wide 6 Try.f6 rfl rfl rfl rfl rfl rfl rfl ⟨rfl, rfl, rfl, rfl, rfl⟩ rfl rfl rfl rfl rfl (by kernel_rfl) Try.func6 (by kernel_rfl)
    (of_decide_eq_true (by kernel_rfl)) (by unfold Func.isWrapper; first | (rw [if_pos (by decide +kernel)]; kernel_rfl) | (rw [if_neg (by decide +kernel)]; exact ⟨rfl, rfl⟩))
    (fun os started H enc _ => capfull_lifted os started H enc)
end Go.Proofs.Ytokkcbhmmhmfmaa.Cap
