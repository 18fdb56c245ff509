/- Layer 11 (memory): the document's Closed. -/
import Derived.Test.YtokkcbhmmhmfmaaMmrYH
namespace Go.Proofs.Ytokkcbhmmhmfmaa.Mmr
open Go.RowKit Go.Proofs.Ytokkcbhmmhmfmaa.Mem Go.Proofs.Ytokkcbhmmhmfmaa.Flow

structure DCl (w : World) (q : Option Addr) (c : Nat) (m : Dm) (v : Nat → Int) (W : World) : Prop where
  at2 : Sits W w.heap.size 37 (dmCells q c m)
  at3 : Sits W (w.heap.size + 1) 26 (Vew.vewCells v)
  hold : HoldD W q c m
  low : Below w.heap.size w W
theorem DCl.grown {w W W' : World} {q : Option Addr} {c : Nat} {m : Dm} {v : Nat → Int} (h : DCl w q c m v W) (hb : Below W.heap.size W W') : DCl w q c m v W' :=
  ⟨h.at2.below hb h.at2.lt, h.at3.below hb h.at3.lt, h.hold.below hb, h.low.trans (hb.mono h.low.size)⟩
/-- Whether a view's times at a location are as they must be. -/
def clOk (m : Dm) (v : Nat → Int) (i : Nat) : Bool :=
  if m.n ≤ i then decide (v i = 0) && decide (v (4 + i) = 0) else (dAt m (i : Int) (v i)).isSome && (dAt m (i : Int) (v (4 + i))).isSome
theorem cl_eq (m : Dm) (v : Nat → Int) : dClosed m v = (List.range 4).all (clOk m v) := rfl
theorem cl_no {m : Dm} {v : Nat → Int} {i : Nat} (hi : i < 4) (h : clOk m v i = false) : dClosed m v = false := by
  rw [cl_eq, ← Bool.not_eq_true, List.all_eq_true]
  intro hc
  rw [hc i (List.mem_range.2 hi)] at h; cases h
theorem cl_yes {m : Dm} {v : Nat → Int} (h : ∀ i, i < 4 → clOk m v i = true) : dClosed m v = true := by
  rw [cl_eq, List.all_eq_true]
  exact fun i hi => h i (List.mem_range.1 hi)
theorem dat_any' (q : Option Addr) (c : Nat) (m : Dm) (hn : m.l.length ≤ 1000) (loc te : Int) (w : World) (hH : HoldD w q c m) :
    Calls Try.prog 20 #[dmV q c m, .int .i64 loc, .int .i64 te] w (Made (.returned (.tuple #[rtV ((dAt m loc te).getD zeroX), .bool (dAt m loc te).isSome])) w) := by
  have h := dat_any q c m hn loc te w hH
  unfold GivesD at h
  rw [show rtO (dAt m loc te) = rtV ((dAt m loc te).getD zeroX) by cases dAt m loc te <;> rfl] at h
  exact h
set_option maxRecDepth 100000 in
set_option maxHeartbeats 4000000 in
theorem dclosed_any (q : Option Addr) (c : Nat) (m : Dm) (hn : m.l.length ≤ 1000) (v : Nat → Int) (w : World) (hH : HoldD w q c m) :
    Calls Try.prog 23 #[dmV q c m, Vew.vewV v] w (Made (.returned (.bool (dClosed m v))) w) := by
  have H0 : Hid (DCl w q c m v ((w.alloc (.cells (dmCells q c m) 37)).alloc (.cells (Vew.vewCells v) 26))) := Lib.hid
    ⟨(Sits.new _ _ _).alloc _, Sits.made (by simp) _ _, hH.below (two_low _ _ _), two_low _ _ _⟩
  have HN := Lib.hid hn
  clear hn hH
  go_enter Try.func23, Try.ntmps23
  go_upto_region 1 with (fail)
  generalize ((w.alloc (.cells (dmCells q c m) 37)).alloc (.cells (Vew.vewCells v) 26)) = w0 at H0 ⊢
  go_wp2_with fail
  go_loopg [5] 4 (fun gg v5 wx => ∃ k, k ≤ 4 ∧ gg = 4 - k ∧ v5 = .int .i64 (k : Nat) ∧ Hid (∀ i, i < k → clOk m v i = true) ∧ Hid (DCl w q c m v wx))
  case atStart => exact ⟨0, by omega, by omega, rfl, Lib.hid (fun i h => by omega), H0⟩
  case round =>
    obtain ⟨k, hk, rfl, rfl, HF, HW⟩ := hrel
    by_cases hlt : k < 4
    · have hb0 : wr.cell? ⟨w.heap.size + 1, k, none⟩ = some (.int .i64 (v k)) := by
        have := HW.out.at3.cell k
        obtain rfl | rfl | rfl | rfl : k = 0 ∨ k = 1 ∨ k = 2 ∨ k = 3 := by omega
        all_goals exact this
      have hb1 : wr.cell? ⟨w.heap.size + 1, 4 + k, none⟩ = some (.int .i64 (v (4 + k))) := by
        have := HW.out.at3.cell (4 + k)
        obtain rfl | rfl | rfl | rfl : k = 0 ∨ k = 1 ∨ k = 2 ∨ k = 3 := by omega
        all_goals exact this
      have l3 := HW.out.at3.lt
      have lb := HW.out.at2.lt
      have b0 : wr.cell? ⟨w.heap.size, 0, none⟩ = some (.int .i64 (m.n : Nat)) := HW.out.at2.cell 0
      have b1 : wr.cell? ⟨w.heap.size, 1, none⟩ = some (.slice q m.l.length c) := HW.out.at2.cell 1
      have j1 : (k : Int) < 4 := by omega
      have j0 : (0 : Int) ≤ (k : Int) := by omega
      have HK := Lib.hid hlt
      clear hk hlt
      by_cases hkn : m.n ≤ k
      · have k1 : (m.n : Int) ≤ (k : Int) := by omega
        have HE : Hid (clOk m v k = (decide (v k = 0) && decide (v (4 + k) = 0))) := Lib.hid (by unfold clOk; rw [if_pos hkn])
        clear hkn
        by_cases h1 : v k = 0
        · have h1' : (v k != 0) = false := by simpa using h1
          by_cases h2 : v (4 + k) = 0
          · have h2' : (v (4 + k) != 0) = false := by simpa using h2
            have HF2 : Hid (∀ i, i < k + 1 → clOk m v i = true) := Lib.hid (fun i hi => by
              by_cases hik : i < k
              · exact HF.out i hik
              · obtain rfl : i = k := by omega
                rw [HE.out, h1, h2]; rfl)
            clear h1 h2
            go_wp2_with fail
            go_roundg (4 - (k + 1))
            case measure => have := HK.out; omega
            case rel => exact ⟨k + 1, by have := HK.out; omega, rfl, by go_num, HF2, HW⟩
          · have h2' : (v (4 + k) != 0) = true := by simpa using h2
            have HR := Lib.hid (cl_no HK.out (show clOk m v k = false by rw [HE.out]; simp [h2]))
            clear h1 h2
            go_wp2_with fail
            go_ret
            exact ⟨ret_bool HR.out.symm, HW.out.low⟩
        · have h1' : (v k != 0) = true := by simpa using h1
          have HR := Lib.hid (cl_no HK.out (show clOk m v k = false by rw [HE.out]; simp [h1]))
          clear h1
          go_wp2_with fail
          go_ret
          exact ⟨ret_bool HR.out.symm, HW.out.low⟩
      · have k1 : ¬ (m.n : Int) ≤ (k : Int) := by omega
        have HE : Hid (clOk m v k = ((dAt m (k : Int) (v k)).isSome && (dAt m (k : Int) (v (4 + k))).isSome)) := Lib.hid (by unfold clOk; rw [if_neg hkn])
        have HCA := Lib.hid (fun W => dat_any' q c m HN.out (k : Int) (v k) W)
        have HCB := Lib.hid (fun W => dat_any' q c m HN.out (k : Int) (v (4 + k)) W)
        clear hkn
        generalize (dAt m (k : Int) (v k)).isSome = ba at HE HCA
        generalize (dAt m (k : Int) (v (4 + k))).isSome = bb at HE HCB
        generalize (dAt m (k : Int) (v k)).getD zeroX = xa at HCA
        generalize (dAt m (k : Int) (v (4 + k))).getD zeroX = xb at HCB
        go_upto_region 7 with (fail)
        refine wp_cut (fun A W => (∃ u4, Fr 56 [(0, dmV q c m), (1, Vew.vewV v), (2, .pointer (some ⟨w.heap.size, 0, none⟩)), (3, .pointer (some ⟨w.heap.size + 1, 0, none⟩)), (4, u4), (5, .int .i64 (k : Nat)), (7, .bool ba)] A) ∧ DCl w q c m v W) ?rest ?first
        case first =>
          intro J K hJ hK
          go_region_with (first
            | (go_at_call 20; refine (HCA.out _ (HW.out.hold.below (Below.drew (Below.refl _ wr)))).mono ?_; rintro e wa ⟨rfl, hba⟩; have HBa : Hid (Below wr.heap.size wr wa) := Lib.hid (Below.trans (Below.drew (Below.refl _ wr)) hba); have hsa : wr.heap.size ≤ wa.heap.size := HBa.out.size; clear hba)
            | (go_at_call 20; refine (HCA.out _ (HW.out.hold.below (Below.drew (one_low wr _)))).mono ?_; rintro e wa ⟨rfl, hba⟩; have HBa : Hid (Below wr.heap.size wr wa) := Lib.hid (Below.trans (Below.drew (one_low wr (.cells zeroRt 47))) (hba.mono (by simp))); have HSa := Lib.hid ((Sits.new wr 47 zeroRt).drew.below hba (by simp)); clear hba; have la := HSa.out.lt; have d0 := HSa.out.cell 0; have f0 := HSa.out.free 0; have d1 := HSa.out.cell 1; have f1 := HSa.out.free 1; have d2 := HSa.out.cell 2; have f2 := HSa.out.free 2; have d3 := HSa.out.cell 3; have f3 := HSa.out.free 3; have d4 := HSa.out.cell 4; have f4 := HSa.out.free 4; have d5 := HSa.out.cell 5; have f5 := HSa.out.free 5; have d6 := HSa.out.cell 6; have f6 := HSa.out.free 6; have d7 := HSa.out.cell 7; have f7 := HSa.out.free 7; have d8 := HSa.out.cell 8; have f8 := HSa.out.free 8; have d9 := HSa.out.cell 9; have f9 := HSa.out.free 9; have d10 := HSa.out.cell 10; have f10 := HSa.out.free 10; have d11 := HSa.out.cell 11; have f11 := HSa.out.free 11; have d12 := HSa.out.cell 12; have f12 := HSa.out.free 12; have d13 := HSa.out.cell 13; have f13 := HSa.out.free 13))
          all_goals
            refine hK _ _ ?_
            refine Met.intro ?_
            refine hJ _ _ ?_
            refine ⟨⟨_, rfl, rfl, by simp only [List.mem_cons, List.not_mem_nil, or_false, forall_eq_or_imp, forall_eq]; exact ⟨rfl, rfl, rfl, rfl, rfl, rfl, rfl⟩⟩, ?_⟩
            refine HW.out.grown ?_
            first
              | exact HBa.out.alloc hsa _
              | (refine set_low ?_ (Nat.le_refl _) _ _; refine set_low ?_ (Nat.le_refl _) _ _; refine set_low ?_ (Nat.le_refl _) _ _; refine set_low ?_ (Nat.le_refl _) _ _; refine set_low ?_ (Nat.le_refl _) _ _; refine set_low ?_ (Nat.le_refl _) _ _; refine set_low ?_ (Nat.le_refl _) _ _; refine set_low ?_ (Nat.le_refl _) _ _; refine set_low ?_ (Nat.le_refl _) _ _; refine set_low ?_ (Nat.le_refl _) _ _; refine set_low ?_ (Nat.le_refl _) _ _; refine set_low ?_ (Nat.le_refl _) _ _; refine set_low ?_ (Nat.le_refl _) _ _; refine set_low ?_ (Nat.le_refl _) _ _; exact HBa.out)
        case rest =>
          rintro ⟨T, D⟩ w1 ⟨⟨u4', hF⟩, hW⟩
          obtain ⟨hsz, hdf, hat⟩ := hF
          simp only [List.mem_cons, List.not_mem_nil, or_false, forall_eq_or_imp, forall_eq] at hsz hdf hat
          obtain ⟨q0, q1, q2, q3, q4, q5, q7⟩ := hat
          subst hdf
          have hsp := spread T 56 hsz
          simp only [List.range, List.range.loop, List.map_cons, List.map_nil, q0, q1, q2, q3, q4, q5, q7] at hsp
          rw [hsp]
          clear hsp hsz q0 q1 q2 q3 q4 q5 q7 hb0 hb1 l3 lb b0 b1 HW
          have HW := Lib.hid hW
          clear hW
          have hb1 : w1.cell? ⟨w.heap.size + 1, 4 + k, none⟩ = some (.int .i64 (v (4 + k))) := by
            have := HW.out.at3.cell (4 + k)
            have := HK.out
            obtain rfl | rfl | rfl | rfl : k = 0 ∨ k = 1 ∨ k = 2 ∨ k = 3 := by omega
            all_goals exact HW.out.at3.cell _
          have l3 := HW.out.at3.lt
          have lb := HW.out.at2.lt
          have b0 : w1.cell? ⟨w.heap.size, 0, none⟩ = some (.int .i64 (m.n : Nat)) := HW.out.at2.cell 0
          have b1 : w1.cell? ⟨w.heap.size, 1, none⟩ = some (.slice q m.l.length c) := HW.out.at2.cell 1
          go_upto_region 8 with (fail)
          refine wp_cut (fun A W => (∃ u4, Fr 56 [(0, dmV q c m), (1, Vew.vewV v), (2, .pointer (some ⟨w.heap.size, 0, none⟩)), (3, .pointer (some ⟨w.heap.size + 1, 0, none⟩)), (4, u4), (5, .int .i64 (k : Nat)), (7, .bool ba), (9, .bool bb)] A) ∧ DCl w q c m v W) ?rest2 ?first2
          case first2 =>
            intro J K hJ hK
            go_region_with (first
              | (go_at_call 20; refine (HCB.out _ (HW.out.hold.below (Below.drew (Below.refl _ w1)))).mono ?_; rintro e wa ⟨rfl, hba⟩; have HBa : Hid (Below w1.heap.size w1 wa) := Lib.hid (Below.trans (Below.drew (Below.refl _ w1)) hba); have hsa : w1.heap.size ≤ wa.heap.size := HBa.out.size; clear hba)
              | (go_at_call 20; refine (HCB.out _ (HW.out.hold.below (Below.drew (one_low w1 _)))).mono ?_; rintro e wa ⟨rfl, hba⟩; have HBa : Hid (Below w1.heap.size w1 wa) := Lib.hid (Below.trans (Below.drew (one_low w1 (.cells zeroRt 47))) (hba.mono (by simp))); have HSa := Lib.hid ((Sits.new w1 47 zeroRt).drew.below hba (by simp)); clear hba; have la := HSa.out.lt; have d0 := HSa.out.cell 0; have f0 := HSa.out.free 0; have d1 := HSa.out.cell 1; have f1 := HSa.out.free 1; have d2 := HSa.out.cell 2; have f2 := HSa.out.free 2; have d3 := HSa.out.cell 3; have f3 := HSa.out.free 3; have d4 := HSa.out.cell 4; have f4 := HSa.out.free 4; have d5 := HSa.out.cell 5; have f5 := HSa.out.free 5; have d6 := HSa.out.cell 6; have f6 := HSa.out.free 6; have d7 := HSa.out.cell 7; have f7 := HSa.out.free 7; have d8 := HSa.out.cell 8; have f8 := HSa.out.free 8; have d9 := HSa.out.cell 9; have f9 := HSa.out.free 9; have d10 := HSa.out.cell 10; have f10 := HSa.out.free 10; have d11 := HSa.out.cell 11; have f11 := HSa.out.free 11; have d12 := HSa.out.cell 12; have f12 := HSa.out.free 12; have d13 := HSa.out.cell 13; have f13 := HSa.out.free 13))
            all_goals
              refine hK _ _ ?_
              refine Met.intro ?_
              refine hJ _ _ ?_
              refine ⟨⟨_, rfl, rfl, by simp only [List.mem_cons, List.not_mem_nil, or_false, forall_eq_or_imp, forall_eq]; exact ⟨rfl, rfl, rfl, rfl, rfl, rfl, rfl, rfl⟩⟩, ?_⟩
              refine HW.out.grown ?_
              first
                | exact HBa.out.alloc hsa _
                | (refine set_low ?_ (Nat.le_refl _) _ _; refine set_low ?_ (Nat.le_refl _) _ _; refine set_low ?_ (Nat.le_refl _) _ _; refine set_low ?_ (Nat.le_refl _) _ _; refine set_low ?_ (Nat.le_refl _) _ _; refine set_low ?_ (Nat.le_refl _) _ _; refine set_low ?_ (Nat.le_refl _) _ _; refine set_low ?_ (Nat.le_refl _) _ _; refine set_low ?_ (Nat.le_refl _) _ _; refine set_low ?_ (Nat.le_refl _) _ _; refine set_low ?_ (Nat.le_refl _) _ _; refine set_low ?_ (Nat.le_refl _) _ _; refine set_low ?_ (Nat.le_refl _) _ _; refine set_low ?_ (Nat.le_refl _) _ _; exact HBa.out)
          case rest2 =>
            rintro ⟨T, D⟩ w2 ⟨⟨u4', hF⟩, hW⟩
            obtain ⟨hsz, hdf, hat⟩ := hF
            simp only [List.mem_cons, List.not_mem_nil, or_false, forall_eq_or_imp, forall_eq] at hsz hdf hat
            obtain ⟨q0, q1, q2, q3, q4, q5, q7, q9⟩ := hat
            subst hdf
            have hsp := spread T 56 hsz
            simp only [List.range, List.range.loop, List.map_cons, List.map_nil, q0, q1, q2, q3, q4, q5, q7, q9] at hsp
            rw [hsp]
            clear hsp hsz q0 q1 q2 q3 q4 q5 q7 q9 hb1 l3 lb b0 b1 HW
            have HW := Lib.hid hW
            clear hW
            cases ba
            · have HR := Lib.hid (cl_no HK.out (show clOk m v k = false by rw [HE.out]; rfl))
              go_wp2_with fail
              go_ret
              exact ⟨ret_bool HR.out.symm, HW.out.low⟩
            cases bb
            · have HR := Lib.hid (cl_no HK.out (show clOk m v k = false by rw [HE.out]; rfl))
              go_wp2_with fail
              go_ret
              exact ⟨ret_bool HR.out.symm, HW.out.low⟩
            have HF2 : Hid (∀ i, i < k + 1 → clOk m v i = true) := Lib.hid (fun i hi => by
              by_cases hik : i < k
              · exact HF.out i hik
              · obtain rfl : i = k := by omega
                rw [HE.out]; rfl)
            go_wp2_with fail
            go_roundg (4 - (k + 1))
            case measure => have := HK.out; omega
            case rel => exact ⟨k + 1, by have := HK.out; omega, rfl, by go_num, HF2, HW⟩
    · obtain rfl : k = 4 := by omega
      have HR := Lib.hid (cl_yes HF.out)
      clear hk hlt
      go_wp2_with fail
      go_ret
      exact ⟨ret_bool HR.out.symm, HW.out.low⟩
end Go.Proofs.Ytokkcbhmmhmfmaa.Mmr
