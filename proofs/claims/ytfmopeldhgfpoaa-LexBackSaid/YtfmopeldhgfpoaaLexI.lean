/- Layer 2 (lex): the document's own answer of any text is the plain function's. -/
import Derived.Test.YtfmopeldhgfpoaaLexH
import Derived.Test.YtfmopeldhgfpoaaLexC
import Derived.Deep.QuietTactic
import Derived.BigQuiet
namespace Go.Proofs.Ytfmopeldhgfpoaa.Lex
open Go.RowKit

def RefMade (r : Res) (w : World) (e : Ending) (w' : World) : Prop :=
  Below w.heap.size w w' ∧ match r with
    | .ok ts => ∃ v, e = .returned (.tuple #[v, .agg #[.int .i64 0, .int .i64 0], .int .i64 0]) ∧ w'.ownsRow w.heap.size 35 5 v ts.length (toks ts)
    | .err er l c => e = .returned (.tuple #[.slice none 0 0, .agg #[.int .i64 l, .int .i64 c], .int .i64 er])
theorem refInfo : (Try.prog.info? 35).map (fun i => (i.zero, i.size, i.bytes)) = some (some (.agg #[.int .u8 0, .string .empty, .int .u64 0, .int .i64 0, .int .i64 0]), 5, 48) := by kernel_rfl

theorem blank_yes' {s : ByteArray} {k : Nat} (h : isB (byt s k) = true) :
    (bAt s k == 10) = true ∨ ((bAt s k == 10) = false ∧ (bAt s k == 9) = true) ∨ ((bAt s k == 10) = false ∧ (bAt s k == 9) = false ∧ (bAt s k == 32) = true) := by
  rcases blank_yes h with h1 | ⟨h1, h2⟩ | ⟨h1, h2, h3⟩
  · have e : bAt s k = 32 := by simpa using h1
    rw [e]; exact .inr (.inr ⟨rfl, rfl, rfl⟩)
  · have e : bAt s k = 9 := by simpa using h2
    rw [e]; exact .inr (.inl ⟨rfl, rfl⟩)
  · exact .inl h3
theorem cut_size (s : ByteArray) (k j : Nat) (hk : k ≤ j) (hj : j ≤ s.size) : (s.extract k j).size = j - k := by
  rw [cut_eq]; show ((s.data.toList.drop k).take (j - k)).toArray.size = _
  have : s.data.toList.length = s.size := rfl
  simp; omega
theorem byt_cut (s : ByteArray) (k j i : Nat) (hi : i < j - k) : byt (s.extract k j) i = byt s (k + i) := by
  unfold byt
  rw [cut_eq]
  show ((s.data.toList.drop k).take (j - k)).getD i 0 = _
  simp [List.getD, hi]
theorem num_cut (s : ByteArray) (k j : Nat) : numOf (s.extract k j) = numAt s k j := by unfold numOf; rw [cut_eq]; rfl

theorem letter_no_digit {c : UInt8} (h : isL c = true) : isD c = false := by
  unfold isL at h
  unfold isD
  simp only [Bool.and_eq_true, decide_eq_true_eq] at h
  have : ¬ c.toNat ≤ 57 := by omega
  simp [this]
/-- The memory of the document's own answer, a piece at hand in block P. -/
structure RMem (w wr : World) (v : Value) (acc : List Tok) (P : Nat) (pc : Array Value) : Prop where
  own : wr.ownsRow w.heap.size 35 5 v acc.length (toks acc)
  hR : Sits wr w.heap.size 25 #[.int .i64 0, .int .i64 0]
  hP : Sits wr P 35 pc
  lP : w.heap.size ≤ P
  ne : v.ownBlock ≠ some P
  low : Below w.heap.size w wr
section
variable {w wr w2 w3 : World} {v v' : Value} {acc : List Tok} {P : Nat} {pc : Array Value}
theorem RMem.begin (hown : wr.ownsRow w.heap.size 35 5 v acc.length (toks acc)) (hR : Sits wr w.heap.size 25 #[.int .i64 0, .int .i64 0]) (hb : Below w.heap.size w wr) (hb2 : Below wr.heap.size wr w2) (pc : Array Value) :
    RMem w (w2.alloc (.cells pc 35)) v acc w2.heap.size pc := by
  have hown2 := own_keep hown (below_keeps hb2) (fun g hg => by have := (hown.lt g hg).2; omega)
  have z := hb.size
  have z2 := hb2.size
  exact { own := hown2.alloc _, hR := (hR.below hb2 hR.lt).alloc _, hP := Sits.new _ _ _, lP := by omega, ne := fun e => by have := (hown2.lt _ e).2; omega, low := (hb.trans (hb2.mono z)).alloc (by omega) _ }
theorem RMem.apart (m : RMem w wr v acc P pc) : P ≠ w.heap.size := m.hP.differ m.hR (by decide)
theorem RMem.put (m : RMem w wr v acc P pc) (i : Nat) (u : Value) : RMem w (wr.setCell ⟨P, i, none⟩ u) v acc P (pc.setIfInBounds i u) :=
  { own := ownsRow_setCell_other m.own m.ne u, hR := m.hR.far (Ne.symm m.apart) u, hP := m.hP.put i u, lP := m.lP, ne := m.ne, low := m.low.setCell m.lP u }
theorem RMem.alloc (m : RMem w wr v acc P pc) (o : Obj) : RMem w (wr.alloc o) v acc P pc :=
  { own := m.own.alloc o, hR := m.hR.alloc o, hP := m.hP.alloc o, lP := m.lP, ne := m.ne, low := m.low.alloc m.low.size o }
theorem RMem.drewN (m : RMem w wr v acc P pc) (n : Nat) : RMem w (wr.drewN n) v acc P pc := { own := m.own, hR := m.hR, hP := m.hP, lP := m.lP, ne := m.ne, low := ⟨m.low.os, m.low.tape, m.low.output, m.low.size, m.low.block⟩ }
theorem RMem.grew (m : RMem w wr v acc P pc) {o : Obj} (t : Tok) {c : List Value} (hc : c = tokCells t) (h : w3.ownsRow w.heap.size 35 5 v' (acc.length + 1) (toks acc ++ c)) (hg : (wr.alloc o).grownBy w3 v.ownBlock) :
    w3.ownsRow w.heap.size 35 5 v' (acc ++ [t]).length (toks (acc ++ [t])) ∧ Sits w3 w.heap.size 25 #[.int .i64 0, .int .i64 0] ∧ Below w.heap.size w w3 := by
  subst hc
  refine ⟨by rw [List.length_append, toks_snoc]; exact h, (m.hR.alloc o).grown hg (own_far m.own m.hR (by decide)), (m.low.alloc m.low.size o).grown hg (by have := m.low.size; simp; omega) (fun g hg => (m.own.lt g hg).1)⟩
end

set_option maxHeartbeats 16000000 in
set_option maxRecDepth 100000 in
theorem ref_any (s : ByteArray) (w : World) (hs : s.size ≤ 4096) :
    Calls Try.prog 8 #[.string s] w fun e w' => RefMade (lex s.data.toList (1, 1)) w e w' := by
  obtain ⟨i0, hi, hz0, hz1, hz2⟩ := info_parts refInfo
  go_enter Try.func8, Try.ntmps8
  go_wp2
  go_loopg [5, 6] s.size (fun g v5 v6 wx => ∃ (k : Nat) (acc : List Tok), k ≤ s.size ∧ g = s.size - k ∧ v6 = .int .i64 (k : Nat) ∧ acc.length ≤ k ∧ Hid (lex s.data.toList (1, 1) = (lex (s.data.toList.drop k) (pl s.data.toList k)).more acc) ∧
    wx.ownsRow w.heap.size 35 5 v5 acc.length (toks acc) ∧ Sits wx w.heap.size 25 #[.int .i64 0, .int .i64 0] ∧ Below w.heap.size w wx)
  case atStart => exact ⟨0, [], Nat.zero_le _, rfl, rfl, Nat.le_refl _, by show _ = _; rw [more_nil]; rfl, World.ownsRow_nil _ _ _ _, Sits.new _ _ _, (Below.refl _ _).alloc (Nat.le_refl _) _⟩
  case round =>
    obtain ⟨k, acc, hk, rfl, rfl, hacc, HX, hown, hR, hb⟩ := hrel
    obtain ⟨r0, r1, rr0, rr1⟩ := hR.all2
    obtain ⟨wo, rfl⟩ : ∃ wo : World, wo = wr := ⟨_, rfl⟩
    by_cases hlt : k < s.size
    · have hll : k < s.data.toList.length := hlt
      have hin := bAt_in s k hlt
      by_cases hbl : isB (byt s k) = true
      · have HX2 := Lib.hid (HX.out.trans (congrArg _ (lex_on_skip (one_blank hll hbl))))
        rcases blank_yes' hbl with h1 | ⟨h1, h2⟩ | ⟨h1, h2, h3⟩
        all_goals
          go_wp2_with fail
          go_roundg (s.size - (k + 1))
          case measure => omega
          case rel => exact ⟨k + 1, acc, hlt, rfl, by go_num, by omega, HX2, hown, hR, hb⟩
      have HB := Lib.hid (Bool.eq_false_iff.2 hbl)
      obtain ⟨n32, n9, n10⟩ := blank_no HB.out
      clear hbl
      by_cases hre : (bAt s k == 35) = true
      · go_wp2_with fail
        go_loopg [6] (s.size - k) (fun g v6 wx => ∃ j, k ≤ j ∧ j ≤ s.size ∧ g = s.size - j ∧ v6 = .int .i64 (j : Nat) ∧ Hid (Scan isR s.data.toList k j) ∧ wo = wx)
        case atStart => exact ⟨k, Nat.le_refl _, hk, rfl, rfl, Scan.none _ _ _, rfl⟩
        case round =>
          obtain ⟨j, hkj, hj, rfl, rfl, HS, rfl⟩ := hrel
          have hjl : j ≤ s.data.toList.length := hj
          by_cases hst : j = s.size ∨ (bAt s j != 10) = false
          · have ht : Stops isR s.data.toList j := fun h => by
              rcases hst with e | e
              · exact absurd h (by rw [e]; exact Nat.lt_irrefl _)
              · exact (nl_not s j).symm.trans e
            have ho := one_remark hll HB.out ((hash_is s k).symm.trans hre) hkj hjl HS.out ht
            have hpos := skip_pos hll ho
            have HX2 := Lib.hid (HX.out.trans (congrArg _ (lex_on_skip ho)))
            rw [show k + (j - k) = j by omega] at HX2
            clear ho ht
            by_cases hje : j < s.size
            · have hin2 := bAt_in s j hje
              have hn : (bAt s j != 10) = false := hst.resolve_left (by omega)
              clear hst
              go_wp2_with fail
              go_roundg (s.size - j)
              case measure => omega
              case rel => exact ⟨j, acc, hj, rfl, rfl, by omega, HX2, hown, hR, hb⟩
            · clear hst
              go_wp2_with fail
              go_roundg (s.size - j)
              case measure => omega
              case rel => exact ⟨j, acc, hj, rfl, rfl, by omega, HX2, hown, hR, hb⟩
          · have hje : ¬ j = s.size := fun e => hst (.inl e)
            have hjlt : j < s.size := by omega
            have hin2 := bAt_in s j hjlt
            have hn : (bAt s j != 10) = true := by cases h : (bAt s j != 10) <;> simp [h] at hst ⊢
            have HS2 := Lib.hid (HS.out.next ((nl_not s j).symm.trans hn))
            clear hst
            go_wp2_with fail
            go_roundg (s.size - (j + 1))
            case measure => omega
            case rel => exact ⟨j + 1, by omega, hjlt, rfl, by go_num, HS2, rfl⟩
      have n35 := Bool.eq_false_iff.2 hre
      clear hre
      have H35 := Lib.hid ((hash_is s k).symm.trans n35)
      by_cases hle : isL (byt s k) = true
      · have ND : isD (byt s k) = false := letter_no_digit hle
        go_wp2_with fail
        refine (place_any s k _ hs hk).mono ?_
        rintro e w2 ⟨rfl, hb2⟩
        have hm := RMem.begin hown hR hb hb2 #[.int .u8 0, .string .empty, .int .u64 0, .int .i64 (lineAt s k), .int .i64 (colAt s k)]
        go_wp2_with (go_at_call 16; first | ((with_reducible refine (word_first s _ _).mono ?_); rintro e w' ⟨rfl, rfl⟩) | ((with_reducible refine (word_next s _ _).mono ?_); rintro e w' ⟨rfl, rfl⟩))
        go_loopg [8] (s.size - k) (fun g v8 wx => ∃ j, k ≤ j ∧ j ≤ s.size ∧ g = s.size - j ∧ v8 = .int .i64 (j : Nat) ∧ Hid (Scan isLD s.data.toList k j) ∧ RMem w wx u5 acc w2.heap.size #[.int .u8 0, .string .empty, .int .u64 0, .int .i64 (lineAt s k), .int .i64 (colAt s k)])
        case atStart => exact ⟨k, Nat.le_refl _, hk, rfl, rfl, Scan.none _ _ _, hm⟩
        case round =>
          obtain ⟨j, hkj, hj, rfl, rfl, HS, hmj⟩ := hrel
          have hjl : j ≤ s.data.toList.length := hj
          by_cases hld : isLD (byt s j) = true
          · have hjlt := ld_lt hld
            have hin2 := bAt_in s j hjlt
            have HS2 := Lib.hid (HS.out.next (q := isLD) hld)
            go_wp2_with (go_at_call 16; first | ((with_reducible refine (word_first s _ _).mono ?_); rintro e w' ⟨rfl, rfl⟩) | ((with_reducible refine (word_next s _ _).mono ?_); rintro e w' ⟨rfl, rfl⟩))
            go_roundg (s.size - (j + 1))
            case measure => omega
            case rel => exact ⟨j + 1, by omega, hjlt, rfl, by go_num, HS2, hmj⟩
          · have hlf := Bool.eq_false_iff.2 hld
            clear hld
            have ho := one_word hll HB.out H35.out ND hle hkj hjl HS.out (fun _ => hlf)
            have hpos := piece_pos hll ho
            have HX2 := Lib.hid (HX.out.trans (congrArg _ (lex_on_piece ho)))
            rw [show k + (j - k) = j by omega, more_more] at HX2
            clear ho
            have k0 : (0 : Int) ≤ (k : Int) := Int.natCast_nonneg _
            have k1 : (k : Int) ≤ (j : Int) := by omega
            have k2 : (j : Int) ≤ (s.size : Int) := by omega
            obtain ⟨p0, p1, p2, p3, p4, pp0, pp1, pp2, pp3, pp4⟩ := hmj.hP.all5
            have hm3 := (hmj.put 0 (.int .u8 2)).put 1 (.string (s.extract k j))
            have zz := hmj.low.size
            by_cases hje : j < s.size
            · have hin2 := bAt_in s j hje
              go_wp2_with (first | (go_at_call 16; first | ((with_reducible refine (word_first s _ _).mono ?_); rintro e w' ⟨rfl, rfl⟩) | ((with_reducible refine (word_next s _ _).mono ?_); rintro e w' ⟨rfl, rfl⟩)) | (at_builtin; refine wpList_append_own _ rfl (.tmp 163) (.tmp 165) 29 rfl w.heap.size 35 i0 _ 5 48 Try.underlying29 hi hz0 hz1 hz2 rfl (by decide) _ acc.length (toks acc) rfl (hm3.own.alloc _) ⟨wr.heap.size, 0, none⟩ 1 1 [.int .u8 2, .string (s.extract k j), .int .u64 0, .int .i64 (lineAt s k), .int .i64 (colAt s k)] rfl rfl (five_at (by simp)) five_one (by unfold maxLen; omega) (by omega) (by have := hm3.low.size; simp; omega) ?_))
              intro v3 w3 own3 grown3 _
              have hm9 := hm3.grew (⟨2, (s.data.toList.drop k).take (j - k), 0, (pl s.data.toList k).1, (pl s.data.toList k).2⟩ : Tok) (by rw [cut_eq]; rfl) own3 grown3
              clear own3 grown3
              go_wp2_with fail
              go_roundg (s.size - j)
              case measure => omega
              case rel => exact ⟨j, _, by omega, rfl, rfl, by simp; omega, HX2, hm9.1, hm9.2.1, hm9.2.2⟩
            · go_wp2_with (first | (go_at_call 16; first | ((with_reducible refine (word_first s _ _).mono ?_); rintro e w' ⟨rfl, rfl⟩) | ((with_reducible refine (word_next s _ _).mono ?_); rintro e w' ⟨rfl, rfl⟩)) | (at_builtin; refine wpList_append_own _ rfl (.tmp 163) (.tmp 165) 29 rfl w.heap.size 35 i0 _ 5 48 Try.underlying29 hi hz0 hz1 hz2 rfl (by decide) _ acc.length (toks acc) rfl (hm3.own.alloc _) ⟨wr.heap.size, 0, none⟩ 1 1 [.int .u8 2, .string (s.extract k j), .int .u64 0, .int .i64 (lineAt s k), .int .i64 (colAt s k)] rfl rfl (five_at (by simp)) five_one (by unfold maxLen; omega) (by omega) (by have := hm3.low.size; simp; omega) ?_))
              intro v3 w3 own3 grown3 _
              have hm9 := hm3.grew (⟨2, (s.data.toList.drop k).take (j - k), 0, (pl s.data.toList k).1, (pl s.data.toList k).2⟩ : Tok) (by rw [cut_eq]; rfl) own3 grown3
              clear own3 grown3
              go_wp2_with fail
              go_roundg (s.size - j)
              case measure => omega
              case rel => exact ⟨j, _, by omega, rfl, rfl, by simp; omega, HX2, hm9.1, hm9.2.1, hm9.2.2⟩
      have nL := Bool.eq_false_iff.2 hle
      clear hle
      by_cases hdi : isD (byt s k) = true
      · have DG : isLD (byt s k) = true := by unfold isLD; rw [hdi, Bool.or_true]
        go_wp2_with fail
        refine (place_any s k _ hs hk).mono ?_
        rintro e w2 ⟨rfl, hb2⟩
        have hm := RMem.begin hown hR hb hb2 #[.int .u8 0, .string .empty, .int .u64 0, .int .i64 (lineAt s k), .int .i64 (colAt s k)]
        go_wp2_with (go_at_call 16; first | ((with_reducible refine (word_first s _ _).mono ?_); rintro e w' ⟨rfl, rfl⟩) | ((with_reducible refine (word_next s _ _).mono ?_); rintro e w' ⟨rfl, rfl⟩))
        go_loopg [8] (s.size - k) (fun g v8 wx => ∃ j, k ≤ j ∧ j ≤ s.size ∧ g = s.size - j ∧ v8 = .int .i64 (j : Nat) ∧ Hid (Scan isD s.data.toList k j) ∧ RMem w wx u5 acc w2.heap.size #[.int .u8 0, .string .empty, .int .u64 0, .int .i64 (lineAt s k), .int .i64 (colAt s k)])
        case atStart => exact ⟨k, Nat.le_refl _, hk, rfl, rfl, Scan.none _ _ _, hm⟩
        case round =>
          obtain ⟨j, hkj, hj, rfl, rfl, HS, hmj⟩ := hrel
          have hjl : j ≤ s.data.toList.length := hj
          by_cases hdj : isD (byt s j) = true
          · have hjlt := digit_lt hdj
            have hin2 := bAt_in s j hjlt
            obtain ⟨hb1, hb3⟩ := digit_bd hdj
            have HS2 := Lib.hid (HS.out.next (q := isD) hdj)
            go_wp2_with fail
            go_roundg (s.size - (j + 1))
            case measure => omega
            case rel => exact ⟨j + 1, by omega, hjlt, rfl, by go_num, HS2, hmj⟩
          · have hdf := Bool.eq_false_iff.2 hdj
            clear hdj
            have HSZ := Lib.hid (cut_size s k j hkj hj)
            have HDS : Hid (∀ i, i < (s.extract k j).size → isD (byt (s.extract k j) i) = true) := fun i hi => by
              rw [HSZ.out] at hi
              rw [byt_cut s k j i hi]; exact HS.out (k + i) (by omega) (by omega)
            have hkj1 : k < j := by
              rcases Nat.lt_or_ge k j with h | h
              · exact h
              · have e : j = k := by omega
                rw [e, hdi] at hdf; cases hdf
            have k0 : (0 : Int) ≤ (k : Int) := Int.natCast_nonneg _
            have k1 : (k : Int) ≤ (j : Int) := by omega
            have k2 : (j : Int) ≤ (s.size : Int) := by omega
            obtain ⟨p0, p1, p2, p3, p4, pp0, pp1, pp2, pp3, pp4⟩ := hmj.hP.all5
            obtain ⟨q0, q1, qq0, qq1⟩ := hmj.hR.all2
            have hPR := hmj.apart
            have zz := hmj.low.size
            have hways : (¬ j < s.size) ∨ (j < s.size ∧ bAt s j < 48) ∨ (j < s.size ∧ 48 ≤ bAt s j ∧ 57 < bAt s j) := by
              rcases Nat.lt_or_ge j s.size with h | h
              · have e : isD (byt s j) = (decide (48 ≤ bAt s j) && decide (bAt s j ≤ 57)) := by
                  unfold isD bAt; congr 1 <;> (simp; omega)
                rw [e] at hdf
                simp only [Bool.and_eq_false_iff, decide_eq_false_iff_not] at hdf
                omega
              · exact .inl (by omega)
            have HDF := Lib.hid hdf; clear hdf
            have hin2 := bAt_in s j
            rcases hways with hw | ⟨hw, hw1⟩ | ⟨hw, hw1, hw2⟩
            all_goals
              first | (have hin3 := hin2 hw) | skip
              clear hin2
              go_wp2_with fail
              refine (number_any _ _ (by rw [HSZ.out]; omega) HDS.out).mono ?_
              rintro e w' ⟨hnum, rfl⟩
              rcases hnum with ⟨hn, rfl⟩ | ⟨hn, rfl⟩
              · rw [num_cut] at hn
                have ho := one_number hll HB.out H35.out hdi hkj hjl HS.out (fun _ => HDF.out) hn
                have HX2 := Lib.hid (HX.out.trans (congrArg _ (lex_on_piece ho)))
                rw [show k + (j - k) = j by omega, more_more] at HX2
                clear ho hn
                have hm3 := ((hmj.put 0 (.int .u8 1)).put 2 (.int .u64 (numOf (s.extract k j) : Nat))).put 1 (.string (s.extract k j))
                go_wp2_with (at_builtin; refine wpList_append_own _ rfl (.tmp 163) (.tmp 165) 29 rfl w.heap.size 35 i0 _ 5 48 Try.underlying29 hi hz0 hz1 hz2 rfl (by decide) _ acc.length (toks acc) rfl (hm3.own.alloc _) ⟨wr.heap.size, 0, none⟩ 1 1 [.int .u8 1, .string (s.extract k j), .int .u64 (numOf (s.extract k j) : Nat), .int .i64 (lineAt s k), .int .i64 (colAt s k)] rfl rfl (five_at (by simp)) five_one (by unfold maxLen; omega) (by omega) (by have := hm3.low.size; simp; omega) ?_)
                intro v3 w3 own3 grown3 _
                have hm9 := hm3.grew (⟨1, (s.data.toList.drop k).take (j - k), numAt s k j, (pl s.data.toList k).1, (pl s.data.toList k).2⟩ : Tok) (by rw [num_cut, cut_eq]; rfl) own3 grown3
                clear own3 grown3
                go_wp2_with fail
                go_roundg (s.size - j)
                case measure => omega
                case rel => exact ⟨j, _, by omega, rfl, rfl, by simp; omega, HX2, hm9.1, hm9.2.1, hm9.2.2⟩
              · rw [num_cut] at hn
                have ho := Lib.hid (one_number_bad hll HB.out H35.out hdi hkj hjl HS.out hn)
                clear hn
                go_wp2_with fail
                go_region
                go_wp2
                refine bodyPost_ret (v := .tuple #[.slice none 0 0, .agg #[.int .i64 (lineAt s k), .int .i64 (colAt s k)], .int .i64 4]) (by simp [results, go_sem, q0, q1]) rfl ?_
                rw [HX.out, lex_bad ho.out]
                exact ⟨((hmj.low.setCell (Nat.le_refl _) _).setCell (Nat.le_refl _) _).drew, rfl⟩
      have nD := Bool.eq_false_iff.2 hdi
      clear hdi
      have SG : isLD (byt s k) = false := by unfold isLD; rw [nL, nD, Bool.or_false]
      go_wp2_with fail
      refine (place_any s k _ hs hk).mono ?_
      rintro e w2 ⟨rfl, hb2⟩
      have hm := RMem.begin hown hR hb hb2 #[.int .u8 0, .string .empty, .int .u64 0, .int .i64 (lineAt s k), .int .i64 (colAt s k)]
      go_wp2_with (go_at_call 16; first | ((with_reducible refine (word_first s _ _).mono ?_); rintro e w' ⟨rfl, rfl⟩) | ((with_reducible refine (word_next s _ _).mono ?_); rintro e w' ⟨rfl, rfl⟩))
      refine (signs_any _).mono ?_
      rintro e w3 ⟨rfl, rfl⟩
      rw [← sgCells_lit]
      have hm2 := hm.alloc (.cells sgCells 9)
      have hG : Sits ((w2.alloc (.cells #[.int .u8 0, .string .empty, .int .u64 0, .int .i64 (lineAt s k), .int .i64 (colAt s k)] 35)).alloc (.cells sgCells 9)) (w2.heap.size + 1) 9 sgCells := Sits.made (by simp) _ _
      go_wp2_with fail
      go_loopg [8, 13] 21 (fun g v8 v13 wx => ∃ q, q ≤ 21 ∧ g = 21 - q ∧ v13 = .int .i64 (q : Nat) ∧ Sits wx (w2.heap.size + 1) 9 sgCells ∧ RMem w wx u5 acc w2.heap.size #[.int .u8 0, .string .empty, .int .u64 0, .int .i64 (lineAt s k), .int .i64 (colAt s k)] ∧
        ((v8 = .int .i64 (k : Nat) ∧ Hid (∀ p, p < q → hits s k p = false)) ∨ (∃ p j : Nat, p < q ∧ Hid (hits s k p = true) ∧ Hid (∀ p', p' < p → hits s k p' = false) ∧ Hid (j = k + (sgn p).size) ∧ k < j ∧ j ≤ s.size ∧ v8 = .int .i64 (j : Nat))))
      case atStart => exact ⟨0, by omega, rfl, rfl, hG, hm2, .inl ⟨rfl, fun p hp => absurd hp (by omega)⟩⟩
      case round =>
        obtain ⟨q, hq, rfl, rfl, hGq, hmq, hway⟩ := hrel
        obtain ⟨p0, p1, p2, p3, p4, pp0, pp1, pp2, pp3, pp4⟩ := hmq.hP.all5
        obtain ⟨q0, q1, qq0, qq1⟩ := hmq.hR.all2
        have hPR := hmq.apart
        have zz := hmq.low.size
        have k0 : (0 : Int) ≤ (k : Int) := Int.natCast_nonneg _
        rcases hway with ⟨rfl, HNO⟩ | ⟨p, j, hpq, HH, HP, HJ, hkj, hj, rfl⟩
        · by_cases hq21 : q < 21
          · have hc := (hGq.cell q).trans (sgCells_at q hq21)
            have hqa : (0 : Int) ≤ (q : Int) := Int.natCast_nonneg _
            have hqb : (q : Int) < 21 := by omega
            obtain ⟨hz1', hz2'⟩ := sgn_size q hq21
            by_cases hfit : k + (sgn q).size ≤ s.size
            · have hf : ((sgn q).size : Int) ≤ (s.size : Int) - (k : Int) := by omega
              have hk9 : (k : Int) + ((sgn q).size : Int) ≤ (s.size : Int) := by omega
              have hk8 : (k : Int) ≤ (k : Int) + ((sgn q).size : Int) := by omega
              go_wp2_with fail
              go_quiet (fail)
              go_wp2_with fail
              · have heq : ((s.extract k (k + (sgn q).size)).toList == (sgn q).toList) = true := by assumption
                have hh : hits s k q = true := by unfold hits; rw [decide_eq_true hfit, Bool.true_and]; exact heq
                clear heq
                go_roundg (21 - (q + 1))
                case measure => omega
                case rel => exact ⟨q + 1, by omega, rfl, by go_num, hGq, hmq.drewN _, .inr ⟨q, k + (sgn q).size, Nat.lt_succ_self q, hh, HNO, rfl, by omega, hfit, by go_num⟩⟩
              · have heq : ((s.extract k (k + (sgn q).size)).toList == (sgn q).toList) = false := by assumption
                have hh : hits s k q = false := by unfold hits; rw [heq, Bool.and_false]
                clear heq
                go_roundg (21 - (q + 1))
                case measure => omega
                case rel => exact ⟨q + 1, by omega, rfl, by go_num, hGq, hmq.drewN _, .inl ⟨rfl, fun p hp => by
                  rcases Nat.lt_or_eq_of_le (Nat.le_of_lt_succ hp) with h | h
                  · exact HNO.out p h
                  · rw [h]; exact hh⟩⟩
            · have hf : decide (((sgn q).size : Int) ≤ (s.size : Int) - (k : Int)) = false := by simp; omega
              have hh : hits s k q = false := by unfold hits; rw [decide_eq_false hfit, Bool.false_and]
              have HHH := Lib.hid hh; clear hh
              clear hfit
              go_wp2_with fail
              go_quiet (fail)
              go_wp2_with fail
              go_roundg (21 - (q + 1))
              case measure => omega
              case rel => exact ⟨q + 1, by omega, rfl, by go_num, hGq, hmq.drewN _, .inl ⟨rfl, fun p hp => by
                rcases Nat.lt_or_eq_of_le (Nat.le_of_lt_succ hp) with h | h
                · exact HNO.out p h
                · rw [h]; exact HHH.out⟩⟩
          · obtain rfl : q = 21 := by omega
            have ho := Lib.hid (one_form hll HB.out H35.out nD nL (none_hits s k hlt HNO.out))
            go_wp2_with fail
            go_region
            go_wp2
            refine bodyPost_ret (v := .tuple #[.slice none 0 0, .agg #[.int .i64 (lineAt s k), .int .i64 (colAt s k)], .int .i64 3]) (by simp [results, go_sem, q0, q1]) rfl ?_
            rw [HX.out, lex_bad ho.out]
            exact ⟨((hmq.low.setCell (Nat.le_refl _) _).setCell (Nat.le_refl _) _).drew, rfl⟩
        · have hf := first_hits s k p hlt (by omega) HH.out HP.out
          have HX2 := Lib.hid (piece_step HX.out (d := 3) (n := (sgn p).size) (v := 0) (by rw [one_sign hll HB.out H35.out nD nL hf.1, hf.2]; rfl) HJ.out)
          clear hf
          have hE : ((j : Int) == (k : Int)) = false := by simp; omega
          have k1 : (k : Int) ≤ (j : Int) := by omega
          have k2 : (j : Int) ≤ (s.size : Int) := by omega
          have hm3 := (hmq.put 0 (.int .u8 3)).put 1 (.string (s.extract k j))
          by_cases hq21 : q < 21
          · go_wp2_with (at_builtin; refine wpList_append_own _ rfl (.tmp 163) (.tmp 165) 29 rfl w.heap.size 35 i0 _ 5 48 Try.underlying29 hi hz0 hz1 hz2 rfl (by decide) _ acc.length (toks acc) rfl (hm3.own.alloc _) ⟨wr.heap.size, 0, none⟩ 1 1 [.int .u8 3, .string (s.extract k j), .int .u64 0, .int .i64 (lineAt s k), .int .i64 (colAt s k)] rfl rfl (five_at (by simp)) five_one (by unfold maxLen; omega) (by omega) (by have := hm3.low.size; simp; omega) ?_)
            intro v3 w3 own3 grown3 _
            have hm9 := hm3.grew (⟨3, (s.data.toList.drop k).take (j - k), 0, (pl s.data.toList k).1, (pl s.data.toList k).2⟩ : Tok) (by rw [cut_eq]; rfl) own3 grown3
            clear own3 grown3
            go_wp2_with fail
            go_roundg (s.size - j)
            case measure => omega
            case rel => exact ⟨j, _, hj, rfl, rfl, by simp; omega, HX2, hm9.1, hm9.2.1, hm9.2.2⟩
          · go_wp2_with (at_builtin; refine wpList_append_own _ rfl (.tmp 163) (.tmp 165) 29 rfl w.heap.size 35 i0 _ 5 48 Try.underlying29 hi hz0 hz1 hz2 rfl (by decide) _ acc.length (toks acc) rfl (hm3.own.alloc _) ⟨wr.heap.size, 0, none⟩ 1 1 [.int .u8 3, .string (s.extract k j), .int .u64 0, .int .i64 (lineAt s k), .int .i64 (colAt s k)] rfl rfl (five_at (by simp)) five_one (by unfold maxLen; omega) (by omega) (by have := hm3.low.size; simp; omega) ?_)
            intro v3 w3 own3 grown3 _
            have hm9 := hm3.grew (⟨3, (s.data.toList.drop k).take (j - k), 0, (pl s.data.toList k).1, (pl s.data.toList k).2⟩ : Tok) (by rw [cut_eq]; rfl) own3 grown3
            clear own3 grown3
            go_wp2_with fail
            go_roundg (s.size - j)
            case measure => omega
            case rel => exact ⟨j, _, hj, rfl, rfl, by simp; omega, HX2, hm9.1, hm9.2.1, hm9.2.2⟩
    · obtain rfl : k = s.size := by omega
      go_wp2_with fail
      refine (place_any s s.size _ hs (Nat.le_refl _)).mono ?_
      rintro e w2 ⟨rfl, hb2⟩
      have hown2 := own_keep hown (below_keeps hb2) (fun g hg => by have := (hown.lt g hg).2; omega)
      have hR2 := hR.below hb2 hR.lt
      have hbb := hb.trans (hb2.mono hb.size)
      go_wp2_with (at_builtin; refine wpList_append_own _ rfl (.tmp 168) (.tmp 174) 29 rfl w.heap.size 35 i0 _ 5 48 Try.underlying29 hi hz0 hz1 hz2 rfl (by decide) _ acc.length (toks acc) rfl (hown2.alloc _) ⟨w2.heap.size, 0, none⟩ 1 1 [.int .u8 0, .string ⟨#[]⟩, .int .u64 0, .int .i64 (lineAt s s.size), .int .i64 (colAt s s.size)] rfl rfl (five_at (by simp)) five_one (by unfold maxLen; omega) (by omega) (by have := hbb.size; simp; omega) ?_)
      intro v3 w3 own3 grown3 _
      have hR3 := (hR2.alloc _).grown grown3 (own_far hown2 hR2 (by decide))
      obtain ⟨q0, q1, qq0, qq1⟩ := hR3.all2
      have own4 : w3.ownsRow w.heap.size 35 5 v3 (acc ++ [(⟨0, [], 0, (pl s.data.toList s.size).1, (pl s.data.toList s.size).2⟩ : Tok)]).length (toks (acc ++ [(⟨0, [], 0, (pl s.data.toList s.size).1, (pl s.data.toList s.size).2⟩ : Tok)])) := by
        rw [List.length_append, toks_snoc]; exact own3
      have low3 : Below w.heap.size w w3 := (hbb.alloc hbb.size _).grown grown3 (by have := hbb.size; simp; omega) (fun g hg => (hown2.lt g hg).1)
      have hne := own_far own4 hR3 (by decide)
      clear own3 grown3
      go_wp2
      refine bodyPost_ret (v := .tuple #[v3, .agg #[.int .i64 0, .int .i64 0], .int .i64 0]) (by simp [results, go_sem, q0, q1]) rfl ?_
      rw [HX.out, show s.data.toList.drop s.size = [] from List.drop_of_length_le (Nat.le_refl _), lex_fin]
      exact ⟨(low3.setCell (Nat.le_refl _) _).setCell (Nat.le_refl _) _, v3, rfl, ownsRow_setCell_other (ownsRow_setCell_other own4 hne _) hne _⟩

set_option maxRecDepth 100000 in
theorem ref_long (s : ByteArray) (w : World) (hs : 4096 < s.size) (hm : s.size ≤ 9223372036854775807) :
    Calls Try.prog 8 #[.string s] w fun e w' => RefMade (.err 4 1 1) w e w' := by
  go_enter Try.func8, Try.ntmps8
  go_wp2
  refine bodyPost_ret (v := .tuple #[.slice none 0 0, .agg #[.int .i64 1, .int .i64 1], .int .i64 4]) (by simp [results, go_sem]) rfl ?_
  exact ⟨(Below.refl _ _).alloc (Nat.le_refl _) _, rfl⟩
theorem ref_all (s : ByteArray) (w : World) (hm : s.size ≤ 9223372036854775807) : Calls Try.prog 8 #[.string s] w fun e w' => RefMade (lexAll s.data.toList) w e w' := by
  by_cases h : s.size ≤ 4096
  · have e : lexAll s.data.toList = lex s.data.toList (1, 1) := if_pos h
    rw [e]; exact ref_any s w h
  · have e : lexAll s.data.toList = .err 4 1 1 := if_neg h
    rw [e]; exact ref_long s w (by omega) hm
end Go.Proofs.Ytfmopeldhgfpoaa.Lex
