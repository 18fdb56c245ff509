/- Proved here: troth/trothlaw02.LexBack answers true for every text and every choice of what stands between: pieces that lex.Lex tells, written one behind the other, are told as themselves, and each stands at its place. Condition: none. -/
import Derived.Test.YtfmopeldhgfpoaaLexL
import Derived.Test.YtfmopeldhgfpoaaLexJ
import Derived.LoopN
import Derived.Deep.RegionHeld3
import Derived.StillTailTactics
namespace Go.Proofs.Ytfmopeldhgfpoaa.Lex
open Go.RowKit Go.ChangeShapes Go.WideShapes Go.ChangeAt

def seps : List (List UInt8) := [[32], [10], [9, 32], [32, 35, 59, 10]]
theorem seps_ok : ∀ b : Nat, b < 4 → Between (seps.getD b []) ∧ (seps.getD b []).length ≤ 4
  | 0, _ => ⟨between1 32 rfl, by decide⟩
  | 1, _ => ⟨between1 10 rfl, by decide⟩
  | 2, _ => ⟨between2, by decide⟩
  | 3, _ => ⟨between4, by decide⟩
  | n + 4, h => absurd h (by omega)
def txt (l : List UInt8) : ByteArray := ⟨l.toArray⟩
/-- What has been written when i pieces are through. -/
def lines (u : List UInt8) (ts : List Tok) (i : Nat) : List UInt8 := (ts.take i).flatMap fun t => u ++ t.text
theorem lines_succ (u : List UInt8) (ts : List Tok) (i : Nat) (t : Tok) (h : ts[i]? = some t) : lines u ts (i + 1) = lines u ts i ++ u ++ t.text := by
  unfold lines
  rw [List.take_add_one, h]
  simp
theorem txt_append (a b : List UInt8) : txt a ++ txt b = txt (a ++ b) := by
  apply ByteArray.ext
  unfold txt
  rw [ByteArray.data_append]; simp
theorem txt_size (a : List UInt8) : (txt a).size = a.length := by unfold txt; show a.toArray.size = _; simp

theorem sepCell (c : Nat) (h : c < [Value.string ⟨#[32]⟩, .string ⟨#[10]⟩, .string ⟨#[9, 32]⟩, .string ⟨#[32, 35, 59, 10]⟩].length) :
    [Value.string ⟨#[32]⟩, .string ⟨#[10]⟩, .string ⟨#[9, 32]⟩, .string ⟨#[32, 35, 59, 10]⟩][c]'h = .string (txt (seps.getD c [])) := by
  match c, h with
  | 0, _ => rfl
  | 1, _ => rfl
  | 2, _ => rfl
  | 3, _ => rfl
theorem lines_len (u : List UInt8) (ts : List Tok) (m : Nat) (hu : u.length ≤ 4) (hm : ∀ t ∈ ts, t.text.length ≤ m) : ∀ i, i ≤ ts.length → (lines u ts i).length ≤ i * (4 + m) := by
  intro i
  induction i with
  | zero => intro _; simp [lines]
  | succ i ih =>
    intro hi
    have ht : ts[i]? = some ts[i] := List.getElem?_eq_getElem (by omega)
    rw [lines_succ u ts i _ ht]
    have h1 := ih (by omega)
    have h2 := hm ts[i] (List.getElem_mem _)
    simp only [List.length_append]
    rw [Nat.add_mul]
    omega
set_option maxRecDepth 100000 in
theorem back_err (s : ByteArray) (w : World) (b : Int) (hs : s.size ≤ 1500) (er x y : Nat) (hl : lexAll s.data.toList = .err er x y) (hx : 1 ≤ x) (hy : 1 ≤ y) (he : er ≠ 0) :
    Calls Try.prog 4 #[.string s, .int .u8 b] w fun e w' => Yes w e w' := by
  have HL := Lib.hid hl; clear hl
  have heb : ((er : Int) != 0) = true := by simp; omega
  have hx' : (0 : Int) < (x : Int) := by omega
  have hy' : (0 : Int) < (y : Int) := by omega
  go_enter Try.func4, Try.ntmps4
  go_wp2_with fail
  refine (lex_all _ _ (by omega)).mono ?_
  rintro e w1 ⟨hb1, hr⟩
  rw [HL.out] at hr
  obtain rfl := hr
  go_wp2_with fail
  refine (wakes_any _).mono ?_
  rintro e w5 ⟨rfl, hb5⟩
  go_wp2_with fail
  go_ret
  exact ⟨rfl, (hb1.alloc hb1.size _).trans (hb5.mono (by have := hb1.size; simp; omega))⟩
set_option maxRecDepth 100000 in
theorem back_long (s : ByteArray) (w : World) (b : Int) (hs : 1500 < s.size) :
    Calls Try.prog 4 #[.string s, .int .u8 b] w fun e w' => Yes w e w' := by
  go_enter Try.func4, Try.ntmps4
  go_wp2_with fail
  refine (wakes_any _).mono ?_
  rintro e w1 ⟨rfl, hb1⟩
  go_wp2_with fail
  go_ret
  exact ⟨rfl, hb1⟩

set_option maxHeartbeats 4000000 in
set_option maxRecDepth 100000 in
theorem back_ok (s : ByteArray) (w : World) (b : Int) (hb0 : 0 ≤ b) (hb1 : b < 256) (hs : s.size ≤ 1500) (ts : List Tok) (hl : lexAll s.data.toList = .ok ts) :
    Calls Try.prog 4 #[.string s, .int .u8 b] w fun e w' => Yes w e w' := by
  obtain ⟨n, hn⟩ := lexAll_pos hl
  have HL := Lib.hid hl; clear hl
  have HNN := Lib.hid hn; clear hn
  obtain ⟨c, hc⟩ : ∃ c : Nat, (c : Int) = b % 4 := ⟨(b % 4).toNat, by omega⟩
  have hc4 : c < 4 := by omega
  have hcm4 : b % 4 = (c : Int) := hc.symm
  clear hc
  have hci0 : (0 : Int) ≤ (c : Int) := Int.natCast_nonneg _
  have hci1 : (c : Int) < 4 := by omega
  have hsep : (#[.string ⟨#[32]⟩, .string ⟨#[10]⟩, .string ⟨#[9, 32]⟩, .string ⟨#[32, 35, 59, 10]⟩] : Array Value)[c]? = some (.string (txt (seps.getD c []))) := by
    match c, hc4 with
    | 0, _ => rfl
    | 1, _ => rfl
    | 2, _ => rfl
    | 3, _ => rfl
  go_enter Try.func4, Try.ntmps4
  go_wp2_with fail
  refine (lex_all _ _ (by omega)).mono ?_
  rintro e w1 ⟨hl1, hr⟩
  rw [HL.out] at hr
  obtain ⟨v1, rfl, own1⟩ := hr
  rw [HNN.out] at own1
  obtain ⟨g1, cap1, rfl, hg1, hg2, hcap, hcm, hcell⟩ := own_form own1
  have R1 := Lib.hid (show Row w1 g1 ts from hcell)
  clear own1 hcell
  unfold maxLen at hcm
  obtain ⟨hemit, hend, hstand, hnl⟩ := told HL.out HNN.out
  obtain ⟨hu, hul⟩ := seps_ok c hc4
  have HE := Lib.hid hemit; clear hemit
  have HEND := Lib.hid hend; clear hend
  have HST := Lib.hid hstand; clear hstand
  have HTL : Hid (∀ t ∈ ts, t.text.length ≤ s.size) := fun t ht => by
    obtain ⟨j, hj, _, _, h2⟩ := HST.out t ht
    by_cases hk : t.kind = 0
    · obtain ⟨i, hi⟩ := List.getElem?_of_mem ht
      have hil : i < ts.length := (List.getElem?_eq_some_iff.1 hi).1
      rw [HNN.out] at hil
      rcases Nat.lt_or_ge i n with h | h
      · obtain ⟨l', hl', _⟩ := HE.out t (List.mem_of_getElem? (i := i) (by rw [List.getElem?_take, if_pos h]; exact hi))
        exact absurd hk (one_kind hl')
      · obtain rfl : i = n := by omega
        rw [(HEND.out t hi).2.1]; exact Nat.zero_le _
    · have := (h2 hk).2.2
      have e : s.data.toList.length = s.size := rfl
      omega
  have R1' := Lib.hid (show Row ((w1.alloc (.cells #[.int .i64 0, .int .i64 0] 25)).alloc (.cells #[.string ⟨#[32]⟩, .string ⟨#[10]⟩, .string ⟨#[9, 32]⟩, .string ⟨#[32, 35, 59, 10]⟩] 9)) g1 ts from
    R1.out.keep fun j => by rw [World.cell?_alloc_lt _ _ _ (show g1 < _ by simp; omega), World.cell?_alloc_lt _ _ _ hg2])
  have hlow := (hl1.alloc hl1.size (.cells #[.int .i64 0, .int .i64 0] 25)).alloc (by have := hl1.size; simp; omega) (.cells #[.string ⟨#[32]⟩, .string ⟨#[10]⟩, .string ⟨#[9, 32]⟩, .string ⟨#[32, 35, 59, 10]⟩] 9)
  have hnl2 : n ≤ 1500 := Nat.le_trans hnl hs
  go_wp2_with fail
  simp only [sepCell]
  clear hsep
  generalize seps.getD c [] = U at hu hul ⊢
  go_loopg [10, 11] n (fun g v10 v11 wx => ∃ i, i ≤ n ∧ g = n - i ∧ v10 = .string (txt (lines U ts i)) ∧ v11 = .int .i64 (i : Nat) ∧ Hid (Row wx g1 ts) ∧ g1 < wx.heap.size ∧ Below w.heap.size w wx)
  case atStart => exact ⟨0, Nat.zero_le _, rfl, rfl, rfl, R1', by simp; omega, hlow⟩
  case round =>
    obtain ⟨i, hi, rfl, rfl, rfl, RA, hg1w, hbx⟩ := hrel
    have hlen := lines_len U ts s.size hul HTL.out i (by rw [HNN.out]; omega)
    have hmul : i * (4 + s.size) ≤ 1500 * 1504 := Nat.mul_le_mul (by omega) (by omega)
    have hadd := run_string_add_sum (P := Try.prog) (w := wr) (txt (lines U ts i)) (txt U) (by rw [txt_size, txt_size]; omega)
    rw [txt_append] at hadd
    by_cases hin : i < n
    · have hit : i < ts.length := by rw [HNN.out]; omega
      have ht : ts[i]? = some ts[i] := List.getElem?_eq_getElem hit
      have hls := Lib.hid (lines_succ U ts i _ ht)
      have htl := HTL.out ts[i] (List.getElem_mem hit)
      obtain ⟨_, a1, _⟩ := RA.out.five ht
      clear ht
      generalize ts[i] = t at a1 hls htl
      have a1' : wr.cell? ⟨g1, i * 5 + 1, none⟩ = some (.string (txt t.text)) := a1
      clear a1
      have hadd2 := run_string_add_sum (P := Try.prog) (w := wr) (txt (lines U ts i ++ U)) (txt t.text) (by rw [txt_size, txt_size, List.length_append]; omega)
      rw [txt_append] at hadd2
      have i0 : (0 : Int) ≤ (i : Int) := Int.natCast_nonneg _
      have i1 : (i : Int) < (n : Int) + 1 := by omega
      have i2 : (i : Int) + 1 < (n : Int) + 1 := by omega
      go_wp2_with fail
      go_roundg (n - (i + 1))
      case measure => omega
      case rel => exact ⟨i + 1, hin, rfl, by rw [hls.out, List.append_assoc], by go_num, RA, hg1w, hbx⟩
    · obtain rfl : i = n := by omega
      by_cases hbig : (4096 : Int) < ((txt (lines U ts i ++ U)).size : Int)
      · go_wp2_with fail
        refine (wakes_any _).mono ?_
        rintro e w5 ⟨rfl, hb5⟩
        go_wp2_with fail
        go_ret
        exact ⟨rfl, hbx.trans (hb5.mono hbx.size)⟩
      · have hsz : (lines U ts i ++ U).length ≤ 4096 := by rw [txt_size] at hbig; omega
        obtain ⟨ts2, k1, k2, k3, k4⟩ := again U hu (ts.take i) HE.out (1, 1)
        have htk : (ts.take i).length = i := by rw [List.length_take, HNN.out]; omega
        rw [htk] at k2 k4
        have HA2 : Hid (lexAll (txt (lines U ts i ++ U)).data.toList = .ok ts2) := by
          show lexAll (lines U ts i ++ U) = _
          unfold lexAll
          rw [if_pos hsz]; exact k1
        have K2 := Lib.hid k2; clear k2 k1
        have HAL : Hid (∀ (j : Nat) a b, ts[j]? = some a → ts2[j]? = some b → Alike a b) := fun j a b ha hb => by
          rcases Nat.lt_or_ge j i with h | h
          · exact k3 j a b (by rw [List.getElem?_take, if_pos h]; exact ha) hb
          · have hjl : j < ts.length := (List.getElem?_eq_some_iff.1 ha).1
            rw [HNN.out] at hjl
            obtain rfl : j = i := by omega
            have h1 := HEND.out a ha
            have h2 := k4 b hb
            exact ⟨h2.1.trans h1.1.symm, h2.2.1.trans h1.2.1.symm, h2.2.2.trans h1.2.2.symm⟩
        clear k3 k4 htk hsz hmul hlen
        go_wp2_with fail
        refine (lex_all _ _ (by omega)).mono ?_
        rintro e w2 ⟨hb2, hr⟩
        rw [HA2.out] at hr
        obtain ⟨v2, rfl, own2⟩ := hr
        rw [K2.out] at own2
        obtain ⟨g2, cap2, rfl, hg3, hg4, hcap2, hcm2, hcell2⟩ := own_form own2
        have R2 := Lib.hid (show Row w2 g2 ts2 from hcell2)
        clear own2 hcell2 hadd
        have z2 := hb2.size
        have RA2 := Lib.hid (show Row (w2.alloc (.cells #[.int .i64 0, .int .i64 0] 25)) g1 ts from RA.out.keep fun j => by
          rw [World.cell?_alloc_lt _ _ _ (show g1 < w2.heap.size by omega), hb2.cell (p := ⟨g1, j, none⟩) hg1w])
        have RB2 := Lib.hid (show Row (w2.alloc (.cells #[.int .i64 0, .int .i64 0] 25)) g2 ts2 from R2.out.keep fun j => World.cell?_alloc_lt _ _ _ hg4)
        have hlow2 := (hbx.trans (hb2.mono hbx.size)).alloc (by have := hbx.size; omega) (.cells #[.int .i64 0, .int .i64 0] 25)
        unfold maxLen at hcm2
        go_wp2_with fail
        go_loopg [15] (i + 1) (fun g v15 wx => ∃ q, q ≤ i + 1 ∧ g = i + 1 - q ∧ v15 = .int .i64 (q : Nat) ∧ Hid (Row wx g1 ts) ∧ Hid (Row wx g2 ts2) ∧ Below w.heap.size w wx)
        case atStart => exact ⟨0, Nat.zero_le _, rfl, rfl, RA2, RB2, hlow2⟩
        case round =>
          obtain ⟨q, hq, rfl, rfl, RC, RD, hby⟩ := hrel
          by_cases hqi : q < i + 1
          · have hqt : q < ts.length := by rw [HNN.out]; exact hqi
            have hqt2 : q < ts2.length := by rw [K2.out]; exact hqi
            have ht : ts[q]? = some ts[q] := List.getElem?_eq_getElem hqt
            have ht2 : ts2[q]? = some ts2[q] := List.getElem?_eq_getElem hqt2
            obtain ⟨l1, l2, l3⟩ := HAL.out q _ _ ht ht2
            obtain ⟨j, hj, hpl, hs0, hs1⟩ := HST.out _ (List.mem_of_getElem? ht)
            obtain ⟨a0, a1, a2, a3, a4⟩ := RC.out.five ht
            obtain ⟨b0, b1, b2, _, _⟩ := RD.out.five ht2
            rw [l1] at b0
            rw [l2] at b1
            rw [l3] at b2
            clear l1 l2 l3 ht ht2
            generalize ts[q] = t at a0 a1 a2 a3 a4 b0 b1 b2 hpl hs0 hs1
            have p1 : (t.line : Int) = lineAt s j := by unfold lineAt; rw [← hpl]
            have p2 : (t.col : Int) = colAt s j := by unfold colAt; rw [← hpl]
            rw [p1] at a3
            rw [p2] at a4
            clear p1 p2 hpl
            have a1' : wr.cell? ⟨g1, q * 5 + 1, none⟩ = some (.string (txt t.text)) := a1
            have b1' : wr.cell? ⟨g2, q * 5 + 1, none⟩ = some (.string (txt t.text)) := b1
            clear a1 b1
            have q0 : (0 : Int) ≤ (q : Int) := Int.natCast_nonneg _
            have q1 : (q : Int) < (i : Int) + 1 := by omega
            have hst := fun W => stands_any s j t.kind t.num (txt t.text) W (by omega) hj hs0 (fun hk => by
              obtain ⟨x1, x2, x3⟩ := hs1 hk
              refine ⟨by rw [txt_size]; exact x3, ?_, ?_⟩
              · rw [txt_size, Lib.toList_data, Lib.toList_data, cut_eq, Nat.add_sub_cancel_left]
                show ((s.data.toList.drop j).take t.text.length == t.text) = true
                rw [x2]; simp
              · rw [Lib.toList_data]; exact x1)
            have HSTD := Lib.hid hst; clear hst hs0 hs1
            go_wp2_with fail
            go_still_tail 43, (by kernel_rfl)
            change wpList _ _ _ _ _ wr.drew
            have RC' := Lib.hid (show Row wr.drew g1 ts from RC.out.keep fun _ => rfl)
            have RD' := Lib.hid (show Row wr.drew g2 ts2 from RD.out.keep fun _ => rfl)
            have hby' := hby.drew
            have lg1 : g1 < wr.drew.heap.size := World.block_lt_of_cell? wr _ a0
            have lg2 : g2 < wr.drew.heap.size := World.block_lt_of_cell? wr _ b0
            clear RC RD hby a0 a1' a2 a3 a4 b0 b1' b2
            generalize wr.drew = w8 at RC' RD' hby' lg1 lg2 ⊢
            go_wp2_with (go_at_call 9; refine (HSTD.out _).mono ?_; rintro e w9 ⟨rfl, hb9⟩)
            go_roundg (i + 1 - (q + 1))
            case measure => omega
            case rel => exact ⟨q + 1, hqi, rfl, by go_num, RC'.out.keep fun _ => hb9.cell lg1, RD'.out.keep fun _ => hb9.cell lg2, hby'.trans (hb9.mono hby'.size)⟩
          · obtain rfl : q = i + 1 := by omega
            go_wp2_with fail
            refine (wakes_any _).mono ?_
            rintro e w5 ⟨rfl, hb5⟩
            go_wp2_with fail
            go_ret
            exact ⟨rfl, hby.trans (hb5.mono hby.size)⟩

theorem one_bad {l : List UInt8} {e : Nat} (h : one l = .bad e) : e ≠ 0 := by
  cases l with
  | nil => cases h
  | cons a m =>
    rw [one_cons] at h
    repeat' split at h
    all_goals first | (injection h with e1; omega) | cases h
theorem adv_pos (l : List UInt8) : ∀ p : Nat × Nat, 1 ≤ p.1 → 1 ≤ p.2 → 1 ≤ (adv p l).1 ∧ 1 ≤ (adv p l).2 := by
  induction l with
  | nil => intro p h1 h2; exact ⟨h1, h2⟩
  | cons c r ih =>
    intro p h1 h2
    show 1 ≤ (adv (step1 p c) r).1 ∧ 1 ≤ (adv (step1 p c) r).2
    apply ih
    · unfold step1; split <;> simp; omega
    · unfold step1; split <;> simp
theorem lexF_err : ∀ (f : Nat) (l : List UInt8) (p : Nat × Nat) (e x y : Nat), 1 ≤ p.1 → 1 ≤ p.2 → lexF f l p = .err e x y → e ≠ 0 ∧ 1 ≤ x ∧ 1 ≤ y := by
  intro f
  induction f with
  | zero => intro l p e x y _ _ h; cases h
  | succ f ih =>
    intro l p e x y h1 h2 h
    rw [lexF] at h
    cases ho : one l with
    | fin => rw [ho] at h; cases h
    | bad e' =>
      rw [ho] at h
      injection h with a b c
      subst a; subst b; subst c
      exact ⟨one_bad ho, h1, h2⟩
    | skip n =>
      rw [ho] at h
      have hp := adv_pos (l.take n) p h1 h2
      exact ih _ _ _ _ _ hp.1 hp.2 h
    | piece k n v =>
      rw [ho] at h
      simp only at h
      have hp := adv_pos (l.take n) p h1 h2
      cases hx : lexF f (l.drop n) (adv p (l.take n)) with
      | ok ts' => rw [hx] at h; cases h
      | err e' x' y' =>
        rw [hx] at h
        injection h with a b c
        subst a; subst b; subst c
        exact ih _ _ _ _ _ hp.1 hp.2 hx
theorem back_any (s : ByteArray) (w : World) (b : Int) (hb0 : 0 ≤ b) (hb1 : b < 256) : Calls Try.prog 4 #[.string s, .int .u8 b] w fun e w' => Yes w e w' := by
  by_cases hs : 1500 < s.size
  · exact back_long s w b hs
  · cases hl : lexAll s.data.toList with
    | ok ts => exact back_ok s w b hb0 hb1 (by omega) ts hl
    | err er x y =>
      have h : er ≠ 0 ∧ 1 ≤ x ∧ 1 ≤ y := by
        unfold lexAll at hl
        by_cases hn : s.data.toList.length ≤ 4096
        · rw [if_pos hn] at hl; exact lexF_err _ _ _ _ _ _ (Nat.le_refl _) (Nat.le_refl _) hl
        · rw [if_neg hn] at hl; injection hl with a b c; omega
      exact back_err s w b (by omega) er x y hl h.2.1 h.2.2 h.1

theorem back_contract (H : Type) (enc : TypeId × Value → H) (W : World) (base : Nat) (args : Array Value) (ds gs : List (DataW H)) (before : List MemPlace)
    (hval : ∀ (j : Nat) t v, Try.f4.params[j]? = some t → args[j]? = some v → Value.okWide Try.prog W .any base t v)
    (hW : DataW.Whole enc Try.prog Try.f4.params.toList Rows.lexBackSpec.vars false W args.toList ds gs before) :
    Calls Try.prog 4 args W fun e W' => ∃ v, e = .returned v ∧ Rows.lexBackSpec.post enc Try.prog Try.f4 false true false false W args v W' := by
  have hW' := hW
  obtain ⟨p, q, hA0, hV, rfl, hfz, hnd⟩ := hW
  have hA : DataW.TrodAll enc Try.prog W 0 (fun _ => true) true Try.f4.params.toList args.toList ds p := hA0
  rw [Try.params4] at hA hval
  obtain ⟨v0, vs0, d0, ds0, p0, q0, hargs, rfl, rfl, h0, r0⟩ := trodAll_cons hA
  obtain ⟨v1, vs1, d1, ds1, p1, q1, rfl, rfl, rfl, h1, r1⟩ := trodAll_cons r0
  obtain ⟨rfl, rfl, rfl⟩ := trodAll_nil r1
  obtain rfl : args = #[v0, v1] := by cases args; simp_all
  obtain ⟨rfl, rfl⟩ := trodVars_none hV
  obtain ⟨s, rfl, rfl, rfl, ws⟩ := ChangeMaps.open_string Try.underlying9 (hval 0 9 v0 rfl rfl) h0
  obtain ⟨b, rfl, rfl, rfl, wb⟩ := open_int Try.underlying5 (hval 1 5 v1 rfl rfl) h1
  clear hA0
  simp only [List.append_nil] at hW'
  have hx : 0 ≤ b ∧ b ≤ 255 := by simpa [Lit.wf, IntKind.min, IntKind.max, IntKind.signed, IntKind.bits] using wb
  refine (back_any s W b hx.1 (by omega)).mono fun e W' ⟨he, hg⟩ => ?_
  subst he
  exact ⟨_, rfl, post_below (pa := []) (pv := []) hW' (fun _ _ _ => trodAll_cons_mk (shut_bool Try.underlying4 _) trodAll_mk0) (fun _ _ => trodAll_cons_mk (ChangeMaps.shut_string Try.underlying9 ws) (trodAll_cons_mk (shut_int Try.underlying5 wb) trodAll_mk0))
    (fun _ _ => rfl) rfl hg (ok_one (by kernel_rfl) rfl (okWide_bool_mk Try.underlying4 _))⟩
set_option maxRecDepth 100000 in
theorem back_lifted (os : Os) (started : os.Started) (H : Type) (enc : TypeId × Value → H) :
    ReturnsInHanded {} Try.checked os 4 .any (Rows.lexBackSpec.pre6 enc Try.prog Try.f4 Rows.lexBackRow.domain false) (Rows.lexBackSpec.post enc Try.prog Try.f4 false true false false) := by
  refine returnsInHanded_of_change (C := Try.checked) own started (by kernel_rfl) Try.func4
    (ChangeSpec.witness6 (enc := enc) (C := Try.checked) false ⟨#[], #[.string .empty, .int .u8 0], []⟩ 8 (by kernel_rfl) (by kernel_rfl) (by kernel_rfl) (by kernel_rfl)) ?_
  intro W base args ds gs before hval hW _ _
  exact back_contract H enc W base args ds gs before hval hW
theorem back_holds : Rows.LexBackSaid :=
  OpenClaim.holds_of_wide 4 Try.f4 rfl rfl rfl rfl rfl rfl rfl ⟨rfl, rfl, rfl, rfl, rfl⟩ rfl rfl rfl rfl rfl (by kernel_rfl) Try.func4 (by kernel_rfl)
    (of_decide_eq_true (by kernel_rfl)) (by unfold Func.isWrapper; first | (rw [if_pos (by decide +kernel)]; kernel_rfl) | (rw [if_neg (by decide +kernel)]; exact ⟨rfl, rfl⟩))
    (fun os started H enc _ => back_lifted os started H enc)
end Go.Proofs.Ytfmopeldhgfpoaa.Lex
