/- Layer 11 (memory): BinarySearchFunc, Clone. -/
import Derived.Test.YtgkgpehjedmejaaMmrF
namespace Go.Proofs.Ytgkgpehjedmejaa.Mmr
open Go.RowKit Go.Proofs.Ytgkgpehjedmejaa.Mem Go.Proofs.Ytgkgpehjedmejaa.Flow

def GivesL (l : List It) (w : World) (e : Ending) (w' : World) : Prop := ∃ r d, e = .returned (.slice r l.length d) ∧ Its w' r l ∧ Below w.heap.size w w'
theorem sl_nil (g o n c : Nat) (W : World) : (binOp .eql 25 (.slice (some ⟨g, o, none⟩) n c) (.slice none 0 0)).run Try.prog W = .ok (.bool false) W := by
  have h : ∀ d : Nat, (Op.equalIn (d + 1) 25 (.slice (some ⟨g, o, none⟩) n c) (.slice none 0 0)).run Try.prog W = .ok false W := fun d => by
    simp [Op.equalIn, run_underlying Try.underlying25]
  simp only [binOp]
  simp [Op.equal, Op.maxDepth, h 9999]
set_option maxRecDepth 100000 in
set_option maxHeartbeats 1000000 in
theorem clone_any (l : List It) (g o c : Nat) (hn : l.length ≤ 1000) (w : World) (h : Its w (some ⟨g, o, none⟩) l) :
    Calls Try.prog 42 #[.slice (some ⟨g, o, none⟩) l.length c] w (GivesL l w) := by
  have H := Lib.hid h
  have HN := Lib.hid hn
  have hnil := sl_nil g o l.length c
  clear h hn
  go_enter Try.func42, Try.ntmps42
  have HL : Hid (Its (w.alloc (.cells #[] 52)) (some ⟨g, o, none⟩) l) := Lib.hid (H.out.below (one_low _ _))
  go_wp2_with (at_builtin; refine wpList_append_cut rowIt rfl _ _ rfl (B := w.heap.size) (r := some ⟨w.heap.size, 0, none⟩) (n := 0) (d := 0) (xs := []) rfl ⟨fun j u h => by simp at h, rfl, Nat.le_refl _, .inl rfl⟩ (by simp) (some ⟨g, o, none⟩) l.length c (cellsOf itL l) rfl (cells_len itL_len l) HL.out.lay (its_one l) (by unfold maxLen; have := HN.out; omega) (by have := HN.out; omega) ?_)
  intro r' d' w' hb hc
  have HB := Lib.hid ((one_low w (.cells #[] 52)).trans (hb.mono (Nat.le_refl _)))
  have HI := Lib.hid (show Its w' r' l from Lay.its (by simpa using hc.lay))
  clear hb hc
  go_wp2_with fail
  go_ret
  exact ⟨r', d', rfl, HI.out, HB.out⟩
/-- A place came back, and whether it is the very one. -/
def Found (z : Nat) (e : Ending) : Prop := ∃ b, e = .returned (.tuple #[.int .i64 (z : Nat), .bool b])
theorem less_iff {l : List It} (h : l.Pairwise fun x y => x.b ≤ y.a ∧ x.b < y.b) (x : It) {k : Nat} {y : It} (hy : l[k]? = some y) : (cmpI y x < 0) ↔ k < posI l x := by rw [cmp_less]; exact pos_at h x k y hy
theorem add2_enters : EntersI 31 := enters_of Try.func31 (by kernel_rfl) rfl
set_option maxRecDepth 100000 in
set_option maxHeartbeats 1000000 in
theorem search_any (l : List It) (x : It) (p : Option Addr) (c : Nat) (hn : l.length ≤ 1000) (hm : ∀ y ∈ l, MayX y) (hx : MayX x) (hs : l.Pairwise fun x y => x.b ≤ y.a ∧ x.b < y.b) (w : World) (h : Its w p l) :
    Calls Try.prog 30 #[.slice p l.length c, .complex .f64 (fw x.a) (fw x.b), .func (.func 31) #[] #[]] w
      (fun e w' => Found (posI l x) e ∧ Below w.heap.size w w') := by
  have en := add2_enters
  unfold EntersI at en
  have H := Lib.hid h
  have HM := Lib.hid hm
  have HX := Lib.hid hx
  have HS := Lib.hid (fun k y hy => less_iff hs x (k := k) (y := y) hy)
  have HP := Lib.hid (pos_le l x)
  have i1 : (l.length : Int) ≤ 1000 := by omega
  clear h hm hx hs
  generalize posI l x = z at HS HP ⊢
  go_enter Try.func30, Try.ntmps30
  go_wp2_with fail
  go_loopg [9, 10] l.length (fun gg v9 v10 wx => ∃ i j, i ≤ z ∧ z ≤ j ∧ j ≤ l.length ∧ gg = j - i ∧ v9 = .int .i64 (i : Nat) ∧ v10 = .int .i64 (j : Nat) ∧ Hid (Below w.heap.size w wx))
  case atStart => exact ⟨0, l.length, by omega, HP.out, by omega, by omega, rfl, rfl, Lib.hid (Below.refl _ _)⟩
  case round =>
    obtain ⟨i, j, hi, hj, hjl, rfl, rfl, rfl, HB⟩ := hrel
    by_cases hlt : i < j
    · have k1 : (i : Int) < (j : Int) := by omega
      obtain ⟨h, hh⟩ : ∃ h, h = (i + j) / 2 := ⟨_, rfl⟩
      have hm : ((i : Int) + (j : Int)) / 2 = (h : Nat) := by omega
      have k2 : (h : Int) < (l.length : Int) := by omega
      have k0 : (0 : Int) ≤ (h : Int) := by omega
      have hx : l[h]? = some (l[h]'(by omega)) := List.getElem?_eq_getElem _
      have HMY := Lib.hid (HM.out _ (List.mem_of_getElem? hx))
      obtain ⟨g, o, rfl, lg, hc⟩ := (H.out.below HB.out).there hx
      generalize l[h]'(by omega) = y at hx hc HMY
      obtain ⟨c0, c1, c2, c3, c4, c5, c6, c7, c8, c9, c10, c11, c12⟩ := hc
      have HC := Lib.hid (add2_any x y HX.out HMY.out wr)
      have HLT := Lib.hid (HS.out h y hx)
      have HA := Lib.hid (show i ≤ h ∧ h < j ∧ i ≤ z ∧ z ≤ j ∧ j ≤ l.length from by omega)
      clear hx hlt hi hj hjl hh
      go_wp2_with fail
      refine HC.out.mono ?_
      rintro e w2 ⟨rfl, hb⟩
      have HB2 := Lib.hid (HB.out.trans (hb.mono HB.out.size))
      clear hb c0 c1 c2 c3 c4 c5 c6 c7 c8 c9 c10 c11 c12
      generalize cmpI y x = q at HLT
      by_cases hq : q < 0
      · have HZ := Lib.hid (HLT.out.1 hq)
        go_wp2_with fail
        go_roundg (j - (h + 1))
        case measure => have := HA.out; have := HZ.out; omega
        case rel => have := HA.out; have := HZ.out; exact ⟨h + 1, j, by omega, by omega, by omega, rfl, by go_num, rfl, HB2⟩
      · have HZ := Lib.hid (mt HLT.out.2 hq)
        go_wp2_with fail
        go_roundg (h - i)
        case measure => have := HA.out; have := HZ.out; omega
        case rel => have := HA.out; have := HZ.out; exact ⟨i, h, by omega, by omega, by omega, rfl, rfl, rfl, HB2⟩
    · obtain rfl : i = j := by omega
      obtain rfl : i = z := by omega
      by_cases hin : i < l.length
      · have k1 : (i : Int) < (l.length : Int) := by omega
        have k0 : (0 : Int) ≤ (i : Int) := by omega
        have hx : l[i]? = some l[i] := List.getElem?_eq_getElem hin
        have HMY := Lib.hid (HM.out _ (List.getElem_mem hin))
        obtain ⟨g, o, rfl, lg, hc⟩ := (H.out.below HB.out).there hx
        generalize l[i] = y at hx hc HMY
        obtain ⟨c0, c1, c2, c3, c4, c5, c6, c7, c8, c9, c10, c11, c12⟩ := hc
        have HC := Lib.hid (add2_any x y HX.out HMY.out wr)
        clear hx hin hlt hi hj hjl
        go_wp2_with fail
        refine HC.out.mono ?_
        rintro e w2 ⟨rfl, hb⟩
        have HB2 := Lib.hid (HB.out.trans (hb.mono HB.out.size))
        clear hb c0 c1 c2 c3 c4 c5 c6 c7 c8 c9 c10 c11 c12
        generalize cmpI y x = q
        cases hq : (q == 0)
        · go_wp2_with fail
          go_ret2
          exact ⟨⟨false, rfl⟩, HB2.out⟩
        · go_wp2_with fail
          go_ret2
          exact ⟨⟨true, rfl⟩, HB2.out⟩
      · have k1 : ¬ (i : Int) < (l.length : Int) := by omega
        clear hin hlt hi hj hjl
        go_wp2_with fail
        go_ret2
        exact ⟨⟨false, rfl⟩, HB.out⟩
end Go.Proofs.Ytgkgpehjedmejaa.Mmr
