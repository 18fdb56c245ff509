/- Proved here: troth/trothlaw02.LexTells answers true for every text: lex.Lex answers what the document's own answer says, pieces, place and error. Condition: none. -/
import Derived.Test.YtfmopeldhgfpoaaLexG
import Derived.Test.YtfmopeldhgfpoaaLexI
import Derived.Deep.QuietTactic
import Derived.BigQuiet
import Derived.LoopN
namespace Go.Proofs.Ytfmopeldhgfpoaa.Lex
open Go.RowKit Go.ChangeShapes Go.WideShapes Go.ChangeAt

theorem lexF_pos : ∀ (f : Nat) (l : List UInt8) (p : Nat × Nat) (ts : List Tok), lexF f l p = .ok ts → 0 < ts.length := by
  intro f
  induction f with
  | zero => intro l p ts h; cases h; exact Nat.succ_pos _
  | succ f ih =>
    intro l p ts h
    rw [lexF] at h
    cases ho : one l with
    | fin => rw [ho] at h; cases h; exact Nat.succ_pos _
    | bad e => rw [ho] at h; cases h
    | skip n => rw [ho] at h; exact ih _ _ _ h
    | piece k n v =>
      rw [ho] at h
      simp only at h
      cases hl : lexF f (l.drop n) (adv p (l.take n)) with
      | ok ts' => rw [hl] at h; cases h; simp
      | err e a b => rw [hl] at h; cases h
theorem lexAll_pos {l : List UInt8} {ts : List Tok} (h : lexAll l = .ok ts) : ∃ n, ts.length = n + 1 := by
  unfold lexAll at h
  by_cases hl : l.length ≤ 4096
  · rw [if_pos hl] at h
    have := lexF_pos _ _ _ _ h
    exact ⟨ts.length - 1, by omega⟩
  · rw [if_neg hl] at h; cases h
theorem lexAll_len {l : List UInt8} {ts : List Tok} (h : lexAll l = .ok ts) : l.length ≤ 4096 := by
  unfold lexAll at h
  by_cases hl : l.length ≤ 4096
  · exact hl
  · rw [if_neg hl] at h; cases h

theorem toks_at : ∀ (ts : List Tok) (i r : Nat) (t : Tok), ts[i]? = some t → r < 5 → (toks ts)[i * 5 + r]? = (tokCells t)[r]?
  | [], i, r, t, h, _ => by simp at h
  | a :: ts, 0, r, t, h, hr => by
    have : a = t := by simpa using h
    subst this
    show (tokCells a ++ toks ts)[0 * 5 + r]? = _
    rw [Nat.zero_mul, Nat.zero_add, List.getElem?_append_left (by exact hr)]
  | a :: ts, i + 1, r, t, h, hr => by
    show (tokCells a ++ toks ts)[(i + 1) * 5 + r]? = _
    have e : (tokCells a).length = 5 := rfl
    rw [List.getElem?_append_right (by rw [e]; omega), e]
    have e2 : (i + 1) * 5 + r - 5 = i * 5 + r := by omega
    rw [e2]
    exact toks_at ts i r t (by simpa using h) hr

/-- A row of pieces in block g. -/
def Row (w : World) (g : Nat) (ts : List Tok) : Prop := ∀ j u, (toks ts)[j]? = some u → w.cell? ⟨g, j, none⟩ = some u
theorem Row.five {w : World} {g : Nat} {ts : List Tok} (h : Row w g ts) {i : Nat} {t : Tok} (ht : ts[i]? = some t) :
    w.cell? ⟨g, i * 5, none⟩ = some (.int .u8 t.kind) ∧ w.cell? ⟨g, i * 5 + 1, none⟩ = some (.string ⟨t.text.toArray⟩) ∧ w.cell? ⟨g, i * 5 + 2, none⟩ = some (.int .u64 t.num) ∧ w.cell? ⟨g, i * 5 + 3, none⟩ = some (.int .i64 t.line) ∧ w.cell? ⟨g, i * 5 + 4, none⟩ = some (.int .i64 t.col) :=
  ⟨h (i * 5 + 0) _ (toks_at ts i 0 t ht (by omega)), h (i * 5 + 1) _ (toks_at ts i 1 t ht (by omega)), h (i * 5 + 2) _ (toks_at ts i 2 t ht (by omega)), h (i * 5 + 3) _ (toks_at ts i 3 t ht (by omega)), h (i * 5 + 4) _ (toks_at ts i 4 t ht (by omega))⟩
theorem Row.keep {w w' : World} {g : Nat} {ts : List Tok} (h : Row w g ts) (hk : ∀ j, w'.cell? ⟨g, j, none⟩ = w.cell? ⟨g, j, none⟩) : Row w' g ts := fun j u hu => (hk j).trans (h j u hu)

set_option maxHeartbeats 4000000 in
set_option maxRecDepth 100000 in
theorem tells_any (s : ByteArray) (w : World) (hm : s.size ≤ 9223372036854775807) : Calls Try.prog 3 #[.string s] w fun e w' => Yes w e w' := by
  by_cases hs : 5000 < s.size
  · go_enter Try.func3, Try.ntmps3
    go_wp2_with fail
    refine (wakes_any _).mono ?_
    rintro e w1 ⟨rfl, hb1⟩
    go_wp2_with fail
    go_ret
    exact ⟨rfl, hb1⟩
  · go_enter Try.func3, Try.ntmps3
    go_wp2_with fail
    refine (lex_all _ _ hm).mono ?_
    rintro e w1 ⟨hb1, hr⟩
    cases hl : lexAll s.data.toList with
    | err er a b =>
      rw [hl] at hr
      obtain rfl := hr
      have HL := Lib.hid hl; clear hl
      go_wp2_with fail
      refine (ref_all _ _ hm).mono ?_
      rintro e w2 ⟨hb2, hr⟩
      rw [HL.out] at hr
      obtain rfl := hr
      have q0 := hb2.cell (p := ⟨w1.heap.size, 0, none⟩) (by simp)
      have q1 := hb2.cell (p := ⟨w1.heap.size, 1, none⟩) (by simp)
      have q2 := q0.trans ((Sits.new w1 25 #[.int .i64 (a : Nat), .int .i64 (b : Nat)]).cell 0)
      have q3 := q1.trans ((Sits.new w1 25 #[.int .i64 (a : Nat), .int .i64 (b : Nat)]).cell 1)
      clear q0 q1
      simp only [List.getElem?_toArray, List.getElem?_cons_zero, List.getElem?_cons_succ] at q2 q3
      have hz := hb2.size
      simp only [World.size_alloc] at hz
      have hlow := (hb1.alloc hb1.size (.cells #[.int .i64 (a : Nat), .int .i64 (b : Nat)] 25)).trans (hb2.mono (by have := hb1.size; simp; omega))
      have hlt : w1.heap.size < w2.heap.size := by omega
      go_wp2_with fail
      refine wp_loop_rounds 1 ?_
      rw [rounds_succ]
      go_wp2_with fail
      refine (wakes_any _).mono ?_
      rintro e w5 ⟨rfl, hb5⟩
      go_wp2_with fail
      go_ret
      exact ⟨rfl, (hlow.alloc hlow.size _).trans (hb5.mono (by have := hlow.size; simp; omega))⟩
    | ok ts =>
      rw [hl] at hr
      obtain ⟨v1, rfl, own1⟩ := hr
      obtain ⟨n, hn⟩ := lexAll_pos hl
      have hle := lexAll_len hl
      have HL := Lib.hid hl; clear hl
      rw [hn] at own1
      obtain ⟨g1, cap1, rfl, hg1, hg2, hcap, hcm, hcell⟩ := own_form own1
      have R1 : Row w1 g1 ts := hcell
      clear own1 hcell
      go_wp2_with fail
      refine (ref_all _ _ hm).mono ?_
      rintro e w2 ⟨hb2, hr⟩
      rw [HL.out] at hr
      obtain ⟨v2, rfl, own2⟩ := hr
      rw [hn] at own2
      obtain ⟨g2, cap2, rfl, hg3, hg4, hcap2, hcm2, hcell2⟩ := own_form own2
      have R2 : Row w2 g2 ts := hcell2
      clear own2 hcell2
      have HNN := Lib.hid hn; clear hn
      have z1 := hb1.size
      have z2 := hb2.size
      simp only [World.size_alloc] at z2 hg3
      have R1' : Row (w2.alloc (.cells #[.int .i64 0, .int .i64 0] 25)) g1 ts := R1.keep fun j => by
        rw [World.cell?_alloc_lt _ _ _ (show g1 < w2.heap.size by omega), hb2.cell (p := ⟨g1, j, none⟩) (by simp; omega), World.cell?_alloc_lt _ _ _ hg2]
      have R2' : Row (w2.alloc (.cells #[.int .i64 0, .int .i64 0] 25)) g2 ts := R2.keep fun j => World.cell?_alloc_lt _ _ _ hg4
      have q2 := (hb2.cell (p := ⟨w1.heap.size, 0, none⟩) (by simp)).trans ((Sits.new w1 25 #[.int .i64 0, .int .i64 0]).cell 0)
      have q3 := (hb2.cell (p := ⟨w1.heap.size, 1, none⟩) (by simp)).trans ((Sits.new w1 25 #[.int .i64 0, .int .i64 0]).cell 1)
      simp only [List.getElem?_toArray, List.getElem?_cons_zero, List.getElem?_cons_succ] at q2 q3
      have hlt : w1.heap.size < w2.heap.size := by omega
      have hlow := ((hb1.alloc hb1.size (.cells #[.int .i64 0, .int .i64 0] 25)).trans (hb2.mono (by simp; omega))).alloc (by omega) (.cells #[.int .i64 0, .int .i64 0] 25)
      unfold maxLen at hcm hcm2
      go_wp2_with fail
      go_loopg [9] (n + 1) (fun g v9 wx => ∃ i, i ≤ n + 1 ∧ g = n + 1 - i ∧ v9 = .int .i64 (i : Nat) ∧ Hid (Row wx g1 ts) ∧ Hid (Row wx g2 ts) ∧ Below w.heap.size w wx)
      case atStart => exact ⟨0, Nat.zero_le _, rfl, rfl, R1', R2', hlow⟩
      case round =>
        obtain ⟨i, hi, rfl, rfl, RA, RB, hb⟩ := hrel
        by_cases hin : i < n + 1
        · have hit : i < ts.length := by rw [HNN.out]; exact hin
          have ht : ts[i]? = some ts[i] := List.getElem?_eq_getElem hit
          obtain ⟨a0, a1, a2, a3, a4⟩ := RA.out.five ht
          obtain ⟨b0, b1, b2, b3, b4⟩ := RB.out.five ht
          clear ht
          generalize ts[i] = t at a0 a1 a2 a3 a4 b0 b1 b2 b3 b4
          have i0 : (0 : Int) ≤ (i : Int) := Int.natCast_nonneg _
          have i1 : (i : Int) < (n : Int) + 1 := by omega
          go_wp2_with fail
          go_quiet (fail)
          go_wp2_with fail
          go_roundg (n + 1 - (i + 1))
          case measure => omega
          case rel => exact ⟨i + 1, hin, rfl, by go_num, RA.out.keep fun _ => rfl, RB.out.keep fun _ => rfl, ⟨hb.os, hb.tape, hb.output, hb.size, hb.block⟩⟩
        · obtain rfl : i = n + 1 := by omega
          go_wp2_with fail
          refine (wakes_any _).mono ?_
          rintro e w5 ⟨rfl, hb5⟩
          go_wp2_with fail
          go_ret
          exact ⟨rfl, hb.trans (hb5.mono hb.size)⟩

theorem tells_contract (H : Type) (enc : TypeId × Value → H) (W : World) (base : Nat) (args : Array Value) (ds gs : List (DataW H)) (before : List MemPlace)
    (hval : ∀ (j : Nat) t v, Try.f3.params[j]? = some t → args[j]? = some v → Value.okWide Try.prog W .any base t v)
    (hW : DataW.Whole enc Try.prog Try.f3.params.toList Rows.lexTellsSpec.vars false W args.toList ds gs before) :
    Calls Try.prog 3 args W fun e W' => ∃ v, e = .returned v ∧ Rows.lexTellsSpec.post enc Try.prog Try.f3 false true false false W args v W' := by
  have hW' := hW
  obtain ⟨p, q, hA0, hV, rfl, hfz, hnd⟩ := hW
  have hA : DataW.TrodAll enc Try.prog W 0 (fun _ => true) true Try.f3.params.toList args.toList ds p := hA0
  rw [Try.params3] at hA hval
  obtain ⟨v0, vs0, d0, ds0, p0, q0, hargs, rfl, rfl, h0, r0⟩ := trodAll_cons hA
  obtain ⟨rfl, rfl, rfl⟩ := trodAll_nil r0
  obtain rfl : args = #[v0] := by cases args; simp_all
  obtain ⟨rfl, rfl⟩ := trodVars_none hV
  obtain ⟨s, rfl, rfl, rfl, ws⟩ := ChangeMaps.open_string Try.underlying9 (hval 0 9 v0 rfl rfl) h0
  clear hA0
  simp only [List.append_nil] at hW'
  refine (tells_any s W (by unfold maxLen at ws; omega)).mono fun e W' ⟨he, hg⟩ => ?_
  subst he
  exact ⟨_, rfl, post_below (pa := []) (pv := []) hW' (fun _ _ _ => trodAll_cons_mk (shut_bool Try.underlying4 _) trodAll_mk0) (fun _ _ => trodAll_cons_mk (ChangeMaps.shut_string Try.underlying9 ws) trodAll_mk0)
    (fun _ _ => rfl) rfl hg (ok_one (by kernel_rfl) rfl (okWide_bool_mk Try.underlying4 _))⟩
set_option maxRecDepth 100000 in
theorem tells_lifted (os : Os) (started : os.Started) (H : Type) (enc : TypeId × Value → H) :
    ReturnsInHanded {} Try.checked os 3 .any (Rows.lexTellsSpec.pre6 enc Try.prog Try.f3 Rows.lexTellsRow.domain false) (Rows.lexTellsSpec.post enc Try.prog Try.f3 false true false false) := by
  refine returnsInHanded_of_change (C := Try.checked) own started (by kernel_rfl) Try.func3
    (ChangeSpec.witness6 (enc := enc) (C := Try.checked) false ⟨#[], #[.string .empty], []⟩ 8 (by kernel_rfl) (by kernel_rfl) (by kernel_rfl) (by kernel_rfl)) ?_
  intro W base args ds gs before hval hW _ _
  exact tells_contract H enc W base args ds gs before hval hW
theorem tells_holds : Rows.LexTellsSaid :=
  OpenClaim.holds_of_wide 3 Try.f3 rfl rfl rfl rfl rfl rfl rfl ⟨rfl, rfl, rfl, rfl, rfl⟩ rfl rfl rfl rfl rfl (by kernel_rfl) Try.func3 (by kernel_rfl)
    (of_decide_eq_true (by kernel_rfl)) (by unfold Func.isWrapper; first | (rw [if_pos (by decide +kernel)]; kernel_rfl) | (rw [if_neg (by decide +kernel)]; exact ⟨rfl, rfl⟩))
    (fun os started H enc _ => tells_lifted os started H enc)
end Go.Proofs.Ytfmopeldhgfpoaa.Lex
