/- Layer 11 (memory): the walk of MemoryApart. -/
import Derived.Test.YtokkcbhmmhmfmaaMmrT
namespace Go.Proofs.Ytokkcbhmmhmfmaa.Mmr
open Go.RowKit Go.Proofs.Ytokkcbhmmhmfmaa.Mem Go.Proofs.Ytokkcbhmmhmfmaa.Flow

set_option maxRecDepth 100000 in
set_option maxHeartbeats 8000000 in
theorem apart_law (start : List Int) (l : List Ac) (ps pl : Option Addr) (cs cl : Nat) (w : World) (hN : Nums w ps start) (hA : Acts w pl l) (hsl : start.length ≤ 9223372036854775807) (hll : l.length ≤ 9223372036854775807) (hR : ∀ a ∈ l, Rng a.x) :
    Calls Try.prog 4 #[.slice ps start.length cs, .slice pl l.length cl] w (Made (.returned (.bool true)) w) := by
  by_cases h1 : 150 < l.length
  · have k0 : (150 : Int) < (l.length : Int) := by omega
    have i1 : (start.length : Int) ≤ 9223372036854775807 := by omega
    have i2 : (l.length : Int) ≤ 9223372036854775807 := by omega
    clear hsl hll h1 hN hA hR
    go_enter Try.func4, Try.ntmps4
    go_wp2_with fail
    refine (wakes_any _).mono ?_
    rintro e w1 ⟨rfl, hb⟩
    go_wp2_with fail
    go_ret
    exact ⟨rfl, hb⟩
  by_cases h2 : start.length < 1
  · have k0 : ¬ (150 : Int) < (l.length : Int) := by omega
    have k1 : (start.length : Int) < 1 := by omega
    have i1 : (start.length : Int) ≤ 9223372036854775807 := by omega
    have i2 : (l.length : Int) ≤ 9223372036854775807 := by omega
    clear hsl hll h1 h2 hN hA hR
    go_enter Try.func4, Try.ntmps4
    go_wp2_with fail
    refine (wakes_any _).mono ?_
    rintro e w1 ⟨rfl, hb⟩
    go_wp2_with fail
    go_ret
    exact ⟨rfl, hb⟩
  by_cases h3 : 4 < start.length
  · have k0 : ¬ (150 : Int) < (l.length : Int) := by omega
    have k1 : ¬ (start.length : Int) < 1 := by omega
    have k2 : (4 : Int) < (start.length : Int) := by omega
    have i1 : (start.length : Int) ≤ 9223372036854775807 := by omega
    have i2 : (l.length : Int) ≤ 9223372036854775807 := by omega
    clear hsl hll h1 h2 h3 hN hA hR
    go_enter Try.func4, Try.ntmps4
    go_wp2_with fail
    refine (wakes_any _).mono ?_
    rintro e w1 ⟨rfl, hb⟩
    go_wp2_with fail
    go_ret
    exact ⟨rfl, hb⟩
  have HL1 := Lib.hid (show 1 ≤ start.length ∧ start.length ≤ 4 ∧ l.length ≤ 150 by omega)
  have k0 : ¬ (150 : Int) < (l.length : Int) := by omega
  have k1 : ¬ (start.length : Int) < 1 := by omega
  have k2 : ¬ (4 : Int) < (start.length : Int) := by omega
  have HN := Lib.hid hN
  have HA := Lib.hid hA
  have HRG := Lib.hid hR
  have HBE : Hid (beginE start = (beginL start, 0)) := Lib.hid (by unfold beginE; rw [if_neg (by omega)])
  have HO0 := Lib.hid (ok_begin (l := start) (by omega) (by omega))
  have HC := Lib.hid (begin_any ps cs start (by omega) w hN)
  rw [HBE.out] at HC
  clear h1 h2 h3 hsl hll hN hA hR
  go_enter Try.func4, Try.ntmps4
  go_wp2_with fail
  refine HC.out.mono ?_
  rintro e w1 ⟨p0, c0, rfl, hh, hb⟩
  dsimp only at hh ⊢
  have H0 : Hid (AW0 w w1.heap.size p0 c0 (beginL start) (w1.alloc (.cells (memCells p0 c0 (beginL start)) 31))) := Lib.hid ⟨Sits.new _ _ _, hh.below (one_low _ _), hb.alloc hb.size _, hb.size⟩
  clear hb hh HC
  go_wp2_with fail
  generalize w1.alloc (.cells (memCells p0 c0 (beginL start)) 31) = w2 at H0 ⊢
  generalize w1.heap.size = g5 at H0 ⊢
  generalize beginL start = m0 at H0 HO0 ⊢
  refine wp_loop_ghost_k (fun n A W => ∃ i m p c, i ≤ l.length ∧ n = l.length - i ∧ Fr 230 [(0, .slice ps start.length cs), (1, .slice pl l.length cl), (5, .pointer (some ⟨g5, 0, none⟩)), (7, .int .i64 (i : Nat))] A ∧ AW0 w g5 p c m W ∧ OkM m) l.length ?_ ?_
  · exact ⟨0, m0, p0, c0, by omega, by omega, ⟨rfl, rfl, by simp only [List.mem_cons, List.not_mem_nil, or_false, forall_eq_or_imp, forall_eq]; exact ⟨rfl, rfl, rfl, rfl⟩⟩, H0.out, HO0.out⟩
  · rintro n ⟨T, D⟩ wr ⟨i, m, p, c, hi, rfl, hF, hW, hO⟩ J K hJ hK
    obtain ⟨hsz, hdf, hat⟩ := hF
    simp only [List.mem_cons, List.not_mem_nil, or_false, forall_eq_or_imp, forall_eq] at hsz hdf hat
    obtain ⟨q0, q1, q2, q3⟩ := hat
    subst hdf
    have hsp := spread T 230 hsz
    simp only [List.range, List.range.loop, List.map_cons, List.map_nil, q0, q1, q2, q3] at hsp
    rw [hsp]
    clear hsp hsz q0 q1 q2 q3
    have HW := Lib.hid hW
    have HO := Lib.hid hO
    clear hW hO H0 HO0
    by_cases hlt : i < l.length
    · have hx : l[i]? = some l[i] := List.getElem?_eq_getElem hlt
      have HRX := Lib.hid (HRG.out _ (List.getElem_mem hlt))
      have HX := Lib.hid hx
      obtain ⟨g, o, hpl, lg, hc⟩ := (HA.out.below HW.out.low).there hx
      generalize l[i] = a at hx hc HRX HX
      obtain ⟨a0, a1, a2, a3, a4, a5, a6, a7, a8, a9, a10, a11, a12, a13, a14⟩ := hc
      have HPL := Lib.hid hpl
      have HG := Lib.hid lg
      have j1 : (i : Int) < (l.length : Int) := by omega
      have j0 : (0 : Int) ≤ (i : Int) := by omega
      have HLT := Lib.hid hlt
      clear hx hlt hi
      subst hpl
      go_upto_region 10 with (fail)
      have S8 := Lib.hid (Sits.new wr 47 (rtCells a.x))
      have HW1 := Lib.hid (HW.out.grown (one_low wr (.cells (rtCells a.x) 47)))
      clear a0 a1 a2 a3 a4 a5 a6 a7 a8 a9 a10 a11 a12 a13 a14 lg
      generalize wr.alloc (.cells (rtCells a.x) 47) = w3 at S8 HW1 ⊢
      generalize wr.heap.size = g8 at S8 ⊢
      clear HW
      have lb := (HW1.out.at5).lt
      have b0 : w3.cell? ⟨g5, 0, none⟩ = some (.slice (p 0) (m.row 0).length (c 0)) := (HW1.out.at5).cell 0
      have b1 : w3.cell? ⟨g5, 1, none⟩ = some (.slice (p 1) (m.row 1).length (c 1)) := (HW1.out.at5).cell 1
      have b2 : w3.cell? ⟨g5, 2, none⟩ = some (.slice (p 2) (m.row 2).length (c 2)) := (HW1.out.at5).cell 2
      have b3 : w3.cell? ⟨g5, 3, none⟩ = some (.slice (p 3) (m.row 3).length (c 3)) := (HW1.out.at5).cell 3
      have b4 : w3.cell? ⟨g5, 4, none⟩ = some (.int .i64 (m.n : Nat)) := (HW1.out.at5).cell 4
      have l8 := S8.out.lt
      go_upto_region 11 with (fail)
      have HAW : Hid (AW w g5 g8 w3.heap.size a.x p c m p c m (w3.alloc (.cells (memCells p c m) 31))) := Lib.hid
        ⟨HW1.out.at5.alloc _, S8.out.alloc _, Sits.new _ _ _, HW1.out.hold.below (one_low _ _), HW1.out.hold.below (one_low _ _), (HW1.out.grown (one_low _ _)).low, HW1.out.ge, by have := HW1.out.at5.lt; omega⟩
      clear lb b0 b1 b2 b3 b4
      clear S8 HW1 l8
      generalize w3.alloc (.cells (memCells p c m) 31) = w4 at HAW ⊢
      generalize w3.heap.size = g9 at HAW ⊢
      obtain ⟨g', o', e', lg, hc⟩ := (HA.out.below HAW.out.low).there HX.out
      injection e' with e'
      injection e' with e1 e2
      subst e1 e2
      obtain ⟨a0, a1, a2, a3, a4, a5, a6, a7, a8, a9, a10, a11, a12, a13, a14⟩ := hc
      clear lg a1 a2 a3 a4 a5 a6 a7 a8 a9 a10 a11 a12 a13 a14
      have lgw : g < w4.heap.size := by
        rcases Nat.lt_or_ge g w4.heap.size with h | h
        · exact h
        · unfold World.cell? at a0; rw [Array.getElem?_eq_none h] at a0; cases a0
      go_upto_block 2 with fail
      clear a0 lgw
      refine wp_cut (fun A W => ∃ p' c', Fr 230 [(0, .slice ps start.length cs), (1, .slice (some ⟨g, o, none⟩) l.length cl), (5, .pointer (some ⟨g5, 0, none⟩)), (7, .int .i64 (i : Nat)), (8, .pointer (some ⟨g8, 0, none⟩)), (9, .pointer (some ⟨g9, 0, none⟩)), (10, .int .i64 (actF m a).2)] A ∧ AW w g5 g8 g9 a.x p c m p' c' (actF m a).1 W) ?rest ?first
      case first =>
        intro J K hJ hK
        have lb := (HAW.out.at5).lt
        have b0 : w4.cell? ⟨g5, 0, none⟩ = some (.slice (p 0) (m.row 0).length (c 0)) := (HAW.out.at5).cell 0
        have b1 : w4.cell? ⟨g5, 1, none⟩ = some (.slice (p 1) (m.row 1).length (c 1)) := (HAW.out.at5).cell 1
        have b2 : w4.cell? ⟨g5, 2, none⟩ = some (.slice (p 2) (m.row 2).length (c 2)) := (HAW.out.at5).cell 2
        have b3 : w4.cell? ⟨g5, 3, none⟩ = some (.slice (p 3) (m.row 3).length (c 3)) := (HAW.out.at5).cell 3
        have b4 : w4.cell? ⟨g5, 4, none⟩ = some (.int .i64 (m.n : Nat)) := (HAW.out.at5).cell 4
        have lr := (HAW.out.at8).lt
        have r0 : w4.cell? ⟨g8, 0, none⟩ = some (.int .i64 a.x.loc) := (HAW.out.at8).cell 0
        have r1 : w4.cell? ⟨g8, 1, none⟩ = some (.int .i64 a.x.a) := (HAW.out.at8).cell 1
        have r2 : w4.cell? ⟨g8, 2, none⟩ = some (.int .i64 a.x.b) := (HAW.out.at8).cell 2
        have r3 : w4.cell? ⟨g8, 3, none⟩ = some (.int .u64 a.x.n) := (HAW.out.at8).cell 3
        have r4 : w4.cell? ⟨g8, 4, none⟩ = some (.int .i64 (a.x.v 0)) := (HAW.out.at8).cell 4
        have r5 : w4.cell? ⟨g8, 5, none⟩ = some (.int .i64 (a.x.v 1)) := (HAW.out.at8).cell 5
        have r6 : w4.cell? ⟨g8, 6, none⟩ = some (.int .i64 (a.x.v 2)) := (HAW.out.at8).cell 6
        have r7 : w4.cell? ⟨g8, 7, none⟩ = some (.int .i64 (a.x.v 3)) := (HAW.out.at8).cell 7
        have r8 : w4.cell? ⟨g8, 8, none⟩ = some (.int .i64 (a.x.v 4)) := (HAW.out.at8).cell 8
        have r9 : w4.cell? ⟨g8, 9, none⟩ = some (.int .i64 (a.x.v 5)) := (HAW.out.at8).cell 9
        have r10 : w4.cell? ⟨g8, 10, none⟩ = some (.int .i64 (a.x.v 6)) := (HAW.out.at8).cell 10
        have r11 : w4.cell? ⟨g8, 11, none⟩ = some (.int .i64 (a.x.v 7)) := (HAW.out.at8).cell 11
        have r12 : w4.cell? ⟨g8, 12, none⟩ = some (.bool a.x.res) := (HAW.out.at8).cell 12
        have r13 : w4.cell? ⟨g8, 13, none⟩ = some (.int .i64 a.x.owner) := (HAW.out.at8).cell 13
        by_cases h0 : a.do_ = 0
        · have HAF : Hid (actF m a = fulfilF m a.x.loc a.x.b a.x.owner) := Lib.hid (by unfold actF; rw [if_pos h0])
          have HC := Lib.hid (fulfil_any p c m HO.out a.x.loc a.x.b a.x.owner w4 HAW.out.hold)
          have k0 : (a.do_ == 0) = true := by simpa using h0
          clear h0
          go_wp2_with fail
          refine HC.out.mono ?_
          rintro e w5 ⟨p', c', rfl, hh, hb⟩
          rw [← HAF.out] at hh ⊢
          have HAW2 := Lib.hid (HAW.out.grown hb)
          have HH := Lib.hid hh
          clear hb hh HC
          clear lb b0 b1 b2 b3 b4
          clear lr r0 r1 r2 r3 r4 r5 r6 r7 r8 r9 r10 r11 r12 r13
          go_wp2_with (refine wpList_store_row rfl 31 _ _ rfl g5 (memCells p' c' (actF m a).1) rfl rfl 31 _ HAW2.out.at5 memSize rfl (mem_one _ _ _) ?_)
          refine Met.intro ?_
          go_step
          exact ⟨p', c', ⟨rfl, rfl, by simp only [List.mem_cons, List.not_mem_nil, or_false, forall_eq_or_imp, forall_eq]; exact ⟨rfl, rfl, rfl, rfl, rfl, rfl, rfl⟩⟩, HAW2.out.put HH.out⟩
        by_cases h1 : a.do_ = 1
        · have HAF : Hid (actF m a = cancelF m a.x.loc a.x.b a.x.owner) := Lib.hid (by unfold actF; rw [if_neg h0, if_pos h1])
          have HC := Lib.hid (cancel_any p c m HO.out a.x.loc a.x.b a.x.owner w4 HAW.out.hold)
          have k0 : (a.do_ == 0) = false := by simpa using h0
          have k1 : (a.do_ == 1) = true := by simpa using h1
          clear h0 h1
          go_wp2_with fail
          refine HC.out.mono ?_
          rintro e w5 ⟨p', c', rfl, hh, hb⟩
          rw [← HAF.out] at hh ⊢
          have HAW2 := Lib.hid (HAW.out.grown hb)
          have HH := Lib.hid hh
          clear hb hh HC
          clear lb b0 b1 b2 b3 b4
          clear lr r0 r1 r2 r3 r4 r5 r6 r7 r8 r9 r10 r11 r12 r13
          go_wp2_with (refine wpList_store_row rfl 31 _ _ rfl g5 (memCells p' c' (actF m a).1) rfl rfl 31 _ HAW2.out.at5 memSize rfl (mem_one _ _ _) ?_)
          refine Met.intro ?_
          go_step
          exact ⟨p', c', ⟨rfl, rfl, by simp only [List.mem_cons, List.not_mem_nil, or_false, forall_eq_or_imp, forall_eq]; exact ⟨rfl, rfl, rfl, rfl, rfl, rfl, rfl⟩⟩, HAW2.out.put HH.out⟩
        obtain ⟨m2, f2, hmf⟩ : ∃ m2 f2, addF m (lawI a.x) = (m2, f2) := ⟨_, _, rfl⟩
        have HMF := Lib.hid hmf
        have HAF : Hid (actF m a = (m2, f2)) := Lib.hid (by unfold actF; rw [if_neg h0, if_neg h1]; exact hmf)
        have HC := Lib.hid (fun W hh => add_any p c m HO.out (lawI a.x) (law_fit a.x) W hh)
        rw [hmf] at HC
        have k0 : (a.do_ == 0) = false := by simpa using h0
        have k1 : (a.do_ == 1) = false := by simpa using h1
        clear h0 h1 hmf
        go_upto_region 13 with (fail)
        clear k0 k1
        refine wp_cut (fun A W => ∃ p' c', Fr 230 [(0, .slice ps start.length cs), (1, .slice (some ⟨g, o, none⟩) l.length cl), (5, .pointer (some ⟨g5, 0, none⟩)), (7, .int .i64 (i : Nat)), (8, .pointer (some ⟨g8, 0, none⟩)), (9, .pointer (some ⟨g9, 0, none⟩)), (10, .int .i64 f2)] A ∧ AW w g5 g8 g9 a.x p c m p' c' m2 W) ?rest2 ?first2
        case first2 =>
          intro J K hJ hK
          go_region_with (first
            | (go_at_call 16; refine (item_any a.x HRX.out _).mono ?_; rintro e wa ⟨rfl, hba⟩; have HAWa := Lib.hid (HAW.out.grown (Below.trans (Below.drew (Below.refl _ w4)) hba)); clear hba; have lb := (HAWa.out.at5).lt; have b0 : wa.cell? ⟨g5, 0, none⟩ = some (.slice (p 0) (m.row 0).length (c 0)) := (HAWa.out.at5).cell 0; have b1 : wa.cell? ⟨g5, 1, none⟩ = some (.slice (p 1) (m.row 1).length (c 1)) := (HAWa.out.at5).cell 1; have b2 : wa.cell? ⟨g5, 2, none⟩ = some (.slice (p 2) (m.row 2).length (c 2)) := (HAWa.out.at5).cell 2; have b3 : wa.cell? ⟨g5, 3, none⟩ = some (.slice (p 3) (m.row 3).length (c 3)) := (HAWa.out.at5).cell 3; have b4 : wa.cell? ⟨g5, 4, none⟩ = some (.int .i64 (m.n : Nat)) := (HAWa.out.at5).cell 4)
            | (go_at_call 15; refine (HC.out _ ?_).mono ?_; exact HAWa.out.hold; rintro e wb ⟨p2, c2, rfl, hhb, hbb⟩; have HAWb := Lib.hid (HAWa.out.grown hbb); have HHb := Lib.hid hhb; clear hbb hhb; have le := (HAWb.out.at5).lt; have e0 : wb.cell? ⟨g5, 0, none⟩ = some (.slice (p 0) (m.row 0).length (c 0)) := (HAWb.out.at5).cell 0; have e1 : wb.cell? ⟨g5, 1, none⟩ = some (.slice (p 1) (m.row 1).length (c 1)) := (HAWb.out.at5).cell 1; have e2 : wb.cell? ⟨g5, 2, none⟩ = some (.slice (p 2) (m.row 2).length (c 2)) := (HAWb.out.at5).cell 2; have e3 : wb.cell? ⟨g5, 3, none⟩ = some (.slice (p 3) (m.row 3).length (c 3)) := (HAWb.out.at5).cell 3; have e4 : wb.cell? ⟨g5, 4, none⟩ = some (.int .i64 (m.n : Nat)) := (HAWb.out.at5).cell 4; have f0 := HAWb.out.at5.free 0; have f1 := HAWb.out.at5.free 1; have f2 := HAWb.out.at5.free 2; have f3 := HAWb.out.at5.free 3; have f4 := HAWb.out.at5.free 4))
          all_goals
            refine hK _ _ ?_
            refine Met.intro ?_
            refine hJ _ _ ?_
            refine ⟨p2, c2, ?_, ?_⟩
            · exact ⟨rfl, rfl, by simp only [List.mem_cons, List.not_mem_nil, or_false, forall_eq_or_imp, forall_eq]; exact ⟨rfl, rfl, rfl, rfl, rfl, rfl, rfl⟩⟩
            · exact (congrArg (AW w g5 g8 g9 a.x p c m p2 c2 m2) (chain_eq HAWb.out.at5)).mpr (HAWb.out.put HHb.out)
        case rest2 =>
          rintro ⟨T, D⟩ w5 ⟨p61, c61, hF, hW⟩
          obtain ⟨hsz, hdf, hat⟩ := hF
          simp only [List.mem_cons, List.not_mem_nil, or_false, forall_eq_or_imp, forall_eq] at hsz hdf hat
          obtain ⟨q0, q1, q2, q3, q4, q5, q6⟩ := hat
          subst hdf
          have hsp := spread T 230 hsz
          simp only [List.range, List.range.loop, List.map_cons, List.map_nil, q0, q1, q2, q3, q4, q5, q6] at hsp
          rw [hsp]
          clear hsp hsz q0 q1 q2 q3 q4 q5 q6
          have HAW2 := Lib.hid hW
          clear hW HC
          have lr := (HAW2.out.at8).lt
          have r0 : w5.cell? ⟨g8, 0, none⟩ = some (.int .i64 a.x.loc) := (HAW2.out.at8).cell 0
          have r1 : w5.cell? ⟨g8, 1, none⟩ = some (.int .i64 a.x.a) := (HAW2.out.at8).cell 1
          have r2 : w5.cell? ⟨g8, 2, none⟩ = some (.int .i64 a.x.b) := (HAW2.out.at8).cell 2
          have r3 : w5.cell? ⟨g8, 3, none⟩ = some (.int .u64 a.x.n) := (HAW2.out.at8).cell 3
          have r4 : w5.cell? ⟨g8, 4, none⟩ = some (.int .i64 (a.x.v 0)) := (HAW2.out.at8).cell 4
          have r5 : w5.cell? ⟨g8, 5, none⟩ = some (.int .i64 (a.x.v 1)) := (HAW2.out.at8).cell 5
          have r6 : w5.cell? ⟨g8, 6, none⟩ = some (.int .i64 (a.x.v 2)) := (HAW2.out.at8).cell 6
          have r7 : w5.cell? ⟨g8, 7, none⟩ = some (.int .i64 (a.x.v 3)) := (HAW2.out.at8).cell 7
          have r8 : w5.cell? ⟨g8, 8, none⟩ = some (.int .i64 (a.x.v 4)) := (HAW2.out.at8).cell 8
          have r9 : w5.cell? ⟨g8, 9, none⟩ = some (.int .i64 (a.x.v 5)) := (HAW2.out.at8).cell 9
          have r10 : w5.cell? ⟨g8, 10, none⟩ = some (.int .i64 (a.x.v 6)) := (HAW2.out.at8).cell 10
          have r11 : w5.cell? ⟨g8, 11, none⟩ = some (.int .i64 (a.x.v 7)) := (HAW2.out.at8).cell 11
          have r12 : w5.cell? ⟨g8, 12, none⟩ = some (.bool a.x.res) := (HAW2.out.at8).cell 12
          have r13 : w5.cell? ⟨g8, 13, none⟩ = some (.int .i64 a.x.owner) := (HAW2.out.at8).cell 13
          by_cases hf : f2 = 0
          rotate_left
          · have kf : (f2 == 0) = false := by simpa using hf
            clear hf
            go_wp2_with fail
            refine Met.intro ?_
            go_step
            rw [HAF.out]
            exact ⟨p61, c61, ⟨rfl, rfl, by simp only [List.mem_cons, List.not_mem_nil, or_false, forall_eq_or_imp, forall_eq]; exact ⟨rfl, rfl, rfl, rfl, rfl, rfl, rfl⟩⟩, HAW2.out⟩
          cases hres : a.x.res
          · rw [hres] at r12
            clear hres
            have kf : (f2 == 0) = true := by simpa using hf
            clear hf
            go_wp2_with fail
            refine Met.intro ?_
            go_step
            rw [HAF.out]
            exact ⟨p61, c61, ⟨rfl, rfl, by simp only [List.mem_cons, List.not_mem_nil, or_false, forall_eq_or_imp, forall_eq]; exact ⟨rfl, rfl, rfl, rfl, rfl, rfl, rfl⟩⟩, HAW2.out⟩
          by_cases ho : 0 ≤ a.x.owner
          rotate_left
          · rw [hres] at r12
            clear hres
            have kf : (f2 == 0) = true := by simpa using hf
            clear hf
            go_wp2_with fail
            refine Met.intro ?_
            go_step
            rw [HAF.out]
            exact ⟨p61, c61, ⟨rfl, rfl, by simp only [List.mem_cons, List.not_mem_nil, or_false, forall_eq_or_imp, forall_eq]; exact ⟨rfl, rfl, rfl, rfl, rfl, rfl, rfl⟩⟩, HAW2.out⟩
          have HCA : Hid (cancelF m2 a.x.loc a.x.b a.x.owner = (m, 0)) := Lib.hid (law_undo HO.out HMF.out hf hres ho)
          have HO2 : Hid (OkM m2) := Lib.hid (by have := ok_add HO.out (lawI a.x); rw [HMF.out] at this; exact this)
          rw [hres] at r12
          have kf : (f2 == 0) = true := by simpa using hf
          clear hres hf
          have HC := Lib.hid (cancel_any p61 c61 m2 HO2.out a.x.loc a.x.b a.x.owner w5 HAW2.out.hold')
          rw [HCA.out] at HC
          have lb := (HAW2.out.at5).lt
          have b0 : w5.cell? ⟨g5, 0, none⟩ = some (.slice (p61 0) (m2.row 0).length (c61 0)) := (HAW2.out.at5).cell 0
          have b1 : w5.cell? ⟨g5, 1, none⟩ = some (.slice (p61 1) (m2.row 1).length (c61 1)) := (HAW2.out.at5).cell 1
          have b2 : w5.cell? ⟨g5, 2, none⟩ = some (.slice (p61 2) (m2.row 2).length (c61 2)) := (HAW2.out.at5).cell 2
          have b3 : w5.cell? ⟨g5, 3, none⟩ = some (.slice (p61 3) (m2.row 3).length (c61 3)) := (HAW2.out.at5).cell 3
          have b4 : w5.cell? ⟨g5, 4, none⟩ = some (.int .i64 (m2.n : Nat)) := (HAW2.out.at5).cell 4
          go_wp2_with fail
          refine HC.out.mono ?_
          rintro e w6 ⟨p3, c3, rfl, hh, hb⟩
          dsimp only at hh ⊢
          have HH := Lib.hid (hh.below (one_low w6 (.cells (memCells p3 c3 m) 31)))
          have HAW3 := Lib.hid ((HAW2.out.grown hb).grown (one_low w6 (.cells (memCells p3 c3 m) 31)))
          have S11 := Lib.hid (Sits.new w6 31 (memCells p3 c3 m))
          clear hb hh HC
          clear lb b0 b1 b2 b3 b4
          clear lr r0 r1 r2 r3 r4 r5 r6 r7 r8 r9 r10 r11 r12 r13
          go_upto_region 16 with (fail)
          generalize w6.alloc (.cells (memCells p3 c3 m) 31) = w7 at HH HAW3 S11 ⊢
          generalize w6.heap.size = g11 at S11 ⊢
          refine wp_flowG [86, 87, 88, 89, 90, 91, 92, 93, 94, 95, 96, 97, 98] [eqV (.int .i64 0), eqV (.bool false), eqV (.bool false), eqV (.agg #[.slice (p3 0) (m.row 0).length (c3 0), .slice (p3 1) (m.row 1).length (c3 1), .slice (p3 2) (m.row 2).length (c3 2), .slice (p3 3) (m.row 3).length (c3 3), .int .i64 (m.n : Nat)]), eqV (.pointer (some ⟨g8, 0, none⟩)), eqV (.int .i64 a.x.loc), listW (listF m a.x.loc), eqV (.agg #[.slice (p 0) (m.row 0).length (c 0), .slice (p 1) (m.row 1).length (c 1), .slice (p 2) (m.row 2).length (c 2), .slice (p 3) (m.row 3).length (c 3), .int .i64 (m.n : Nat)]), eqV (.pointer (some ⟨g8, 0, none⟩)), eqV (.int .i64 a.x.loc), listW (listF m a.x.loc), eqV (.bool true), eqV (.bool false)] (by kernel_rfl) (by kernel_rfl) (by kernel_rfl) (by kernel_rfl) (by rfl)
            (by simp only [List.mem_cons, List.not_mem_nil, or_false, forall_eq_or_imp, forall_eq]; refine ⟨?_, ?_, ?_, ?_, ?_, ?_, ?_, ?_, ?_, ?_, ?_, ?_, ?_⟩ <;> (first | exact eqV_mono _ | exact memE_mono _ _ | exact memW_mono _ | exact listW_mono _ | exact boxP_mono _)) ?_ ?_
          · intro i o hi ho A W hW hk he
            simp only [List.length_cons, List.length_nil, Nat.zero_add, Nat.reduceAdd] at hi
            obtain rfl | rfl | rfl | rfl | rfl | rfl | rfl | rfl | rfl | rfl | rfl | rfl | rfl : i = 0 ∨ i = 1 ∨ i = 2 ∨ i = 3 ∨ i = 4 ∨ i = 5 ∨ i = 6 ∨ i = 7 ∨ i = 8 ∨ i = 9 ∨ i = 10 ∨ i = 11 ∨ i = 12 := by omega
            · injection ho with ho; subst ho
              refine .inl ⟨wanted_free rfl, ?_⟩
              have h12 : A.tmps[12]?.getD undef = .int .i64 0 := hk 12 (by rfl)
              go_simp
              exact ⟨rfl, Below.refl _ _⟩
            · injection ho with ho; subst ho
              refine .inl ⟨wanted_free rfl, ?_⟩
              have h86 : A.tmps[86]?.getD undef = .int .i64 0 := he 0 (by kernel_rfl)
              go_simp
              exact ⟨rfl, Below.refl _ _⟩
            · injection ho with ho; subst ho
              refine .inl ⟨wanted_free rfl, ?_⟩
              have h87 : A.tmps[87]?.getD undef = .bool false := he 1 (by kernel_rfl)
              go_simp
              exact ⟨rfl, Below.refl _ _⟩
            · injection ho with ho; subst ho
              have hg : A.tmps[88]?.getD undef = .bool false := he 2 (by kernel_rfl)
              refine .inl ⟨wanted_yes (d := 88) rfl (by kernel_rfl) hg, ?_⟩
              have h11 : A.tmps[11]?.getD undef = .pointer (some ⟨g11, 0, none⟩) := hk 11 (by rfl)
              have c0 := (S11.out.below hW S11.out.lt).cell 0
              have c1 := (S11.out.below hW S11.out.lt).cell 1
              have c2 := (S11.out.below hW S11.out.lt).cell 2
              have c3 := (S11.out.below hW S11.out.lt).cell 3
              have c4 := (S11.out.below hW S11.out.lt).cell 4
              go_simp
              exact ⟨rfl, Below.refl _ _⟩
            · injection ho with ho; subst ho
              have hg : A.tmps[88]?.getD undef = .bool false := he 2 (by kernel_rfl)
              refine .inl ⟨wanted_yes (d := 88) rfl (by kernel_rfl) hg, ?_⟩
              have h8 : A.tmps[8]?.getD undef = .pointer (some ⟨g8, 0, none⟩) := hk 8 (by rfl)
              go_simp
              exact ⟨rfl, Below.refl _ _⟩
            · injection ho with ho; subst ho
              have hg : A.tmps[88]?.getD undef = .bool false := he 2 (by kernel_rfl)
              refine .inl ⟨wanted_yes (d := 88) rfl (by kernel_rfl) hg, ?_⟩
              have h90 : A.tmps[90]?.getD undef = .pointer (some ⟨g8, 0, none⟩) := he 4 (by kernel_rfl)
              have c0 := ((HAW3.out.grown hW).at8).cell 0
              go_simp
              exact ⟨rfl, Below.refl _ _⟩
            · injection ho with ho; subst ho
              have hg : A.tmps[88]?.getD undef = .bool false := he 2 (by kernel_rfl)
              refine .inl ⟨wanted_yes (d := 88) rfl (by kernel_rfl) hg, ?_⟩
              have h89 : A.tmps[89]?.getD undef = .agg #[.slice (p3 0) (m.row 0).length (c3 0), .slice (p3 1) (m.row 1).length (c3 1), .slice (p3 2) (m.row 2).length (c3 2), .slice (p3 3) (m.row 3).length (c3 3), .int .i64 (m.n : Nat)] := he 3 (by kernel_rfl)
              have h91 : A.tmps[91]?.getD undef = .int .i64 a.x.loc := he 5 (by kernel_rfl)
              go_simp
              refine Calls.mono (list_any p3 c3 m HO.out a.x.loc W (HH.out.below hW)) ?_
              rintro e' w' ⟨r2, d2, rfl, hh, hb⟩
              exact ⟨_, rfl, ⟨r2, d2, hh, rfl⟩, hb⟩
            · injection ho with ho; subst ho
              have hg : A.tmps[88]?.getD undef = .bool false := he 2 (by kernel_rfl)
              refine .inl ⟨wanted_yes (d := 88) rfl (by kernel_rfl) hg, ?_⟩
              have h9 : A.tmps[9]?.getD undef = .pointer (some ⟨g9, 0, none⟩) := hk 9 (by rfl)
              have c0 := ((HAW3.out.grown hW).at9).cell 0
              have c1 := ((HAW3.out.grown hW).at9).cell 1
              have c2 := ((HAW3.out.grown hW).at9).cell 2
              have c3 := ((HAW3.out.grown hW).at9).cell 3
              have c4 := ((HAW3.out.grown hW).at9).cell 4
              go_simp
              exact ⟨rfl, Below.refl _ _⟩
            · injection ho with ho; subst ho
              have hg : A.tmps[88]?.getD undef = .bool false := he 2 (by kernel_rfl)
              refine .inl ⟨wanted_yes (d := 88) rfl (by kernel_rfl) hg, ?_⟩
              have h8 : A.tmps[8]?.getD undef = .pointer (some ⟨g8, 0, none⟩) := hk 8 (by rfl)
              go_simp
              exact ⟨rfl, Below.refl _ _⟩
            · injection ho with ho; subst ho
              have hg : A.tmps[88]?.getD undef = .bool false := he 2 (by kernel_rfl)
              refine .inl ⟨wanted_yes (d := 88) rfl (by kernel_rfl) hg, ?_⟩
              have h94 : A.tmps[94]?.getD undef = .pointer (some ⟨g8, 0, none⟩) := he 8 (by kernel_rfl)
              have c0 := ((HAW3.out.grown hW).at8).cell 0
              go_simp
              exact ⟨rfl, Below.refl _ _⟩
            · injection ho with ho; subst ho
              have hg : A.tmps[88]?.getD undef = .bool false := he 2 (by kernel_rfl)
              refine .inl ⟨wanted_yes (d := 88) rfl (by kernel_rfl) hg, ?_⟩
              have h93 : A.tmps[93]?.getD undef = .agg #[.slice (p 0) (m.row 0).length (c 0), .slice (p 1) (m.row 1).length (c 1), .slice (p 2) (m.row 2).length (c 2), .slice (p 3) (m.row 3).length (c 3), .int .i64 (m.n : Nat)] := he 7 (by kernel_rfl)
              have h95 : A.tmps[95]?.getD undef = .int .i64 a.x.loc := he 9 (by kernel_rfl)
              go_simp
              refine Calls.mono (list_any p c m HO.out a.x.loc W ((HAW3.out.grown hW).hold)) ?_
              rintro e' w' ⟨r2, d2, rfl, hh, hb⟩
              exact ⟨_, rfl, ⟨r2, d2, hh, rfl⟩, hb⟩
            · injection ho with ho; subst ho
              have hg : A.tmps[88]?.getD undef = .bool false := he 2 (by kernel_rfl)
              refine .inl ⟨wanted_yes (d := 88) rfl (by kernel_rfl) hg, ?_⟩
              obtain ⟨r92, d92, H92, h92⟩ : listW (listF m a.x.loc) (A.tmps[92]?.getD undef) W := he 6 (by kernel_rfl)
              obtain ⟨r96, d96, H96, h96⟩ : listW (listF m a.x.loc) (A.tmps[96]?.getD undef) W := he 10 (by kernel_rfl)
              go_simp
              refine Calls.mono (alike_any (listF m a.x.loc) (by have := list_few HO.out a.x.loc; omega) (fun x hx => fit_may (list_mem HO.out hx)) r92 r96 d92 d96 W H92 H96) ?_
              rintro e' w' ⟨rfl, hb⟩
              exact ⟨_, rfl, rfl, hb⟩
            · injection ho with ho; subst ho
              have hg : A.tmps[88]?.getD undef = .bool false := he 2 (by kernel_rfl)
              refine .inl ⟨wanted_yes (d := 88) rfl (by kernel_rfl) hg, ?_⟩
              have h97 : A.tmps[97]?.getD undef = .bool true := he 11 (by kernel_rfl)
              go_simp
              exact ⟨rfl, Below.refl _ _⟩
          · intro xs W hW hV
            have e88 : xs 2 = .bool false := hV 2 (by simp)
            have e98 : xs 12 = .bool false := hV 12 (by simp)
            simp only [List.length_cons, List.length_nil, Nat.zero_add, Nat.reduceAdd, List.drop_succ_cons, List.drop_zero, putL, Act.put, List.setIfInBounds_toArray, List.set_cons_zero, List.set_cons_succ, e88, e98]
            clear hV e88 e98
            have HAW4 := Lib.hid (HAW3.out.grown hW)
            clear hW
            go_wp2_with fail
            refine Met.intro ?_
            go_step
            rw [HAF.out]
            exact ⟨p61, c61, ⟨rfl, rfl, by simp only [List.mem_cons, List.not_mem_nil, or_false, forall_eq_or_imp, forall_eq]; exact ⟨rfl, rfl, rfl, rfl, rfl, rfl, rfl⟩⟩, HAW4.out⟩
      case rest =>
        rintro ⟨T, D⟩ W ⟨p', c', hF, hW⟩
        obtain ⟨hsz, hdf, hat⟩ := hF
        simp only [List.mem_cons, List.not_mem_nil, or_false, forall_eq_or_imp, forall_eq] at hsz hdf hat
        obtain ⟨q0, q1, q2, q3, q4, q5, q6⟩ := hat
        subst hdf
        have hsp := spread T 230 hsz
        simp only [List.range, List.range.loop, List.map_cons, List.map_nil, q0, q1, q2, q3, q4, q5, q6] at hsp
        rw [hsp]
        clear hsp hsz q0 q1 q2 q3 q4 q5 q6
        have HAW2 := Lib.hid hW
        have HO2 := Lib.hid (ok_act HO.out a)
        have HNO := Lib.hid (act_no (m := m) (a := a))
        have HYES := Lib.hid (fun h0 h1 => act_yes HO.out (a := a) h0 h1)
        have HA0 : Hid (∀ W', Below w.heap.size w W' → W'.cell? ⟨g, o + i * 15, none⟩ = some (.int .u8 a.do_)) := Lib.hid (fun W' hb => by
          obtain ⟨g', o', e', _, hc⟩ := (HA.out.below hb).there HX.out
          injection e' with e'
          injection e' with e1 e2
          subst e1 e2
          exact hc.1)
        clear hW HAW
        generalize (actF m a).1 = m2 at HAW2 HO2 HNO HYES ⊢
        generalize (actF m a).2 = f at HNO HYES ⊢
        go_upto_region 22 with (fail)
        refine wp_flowG (w := W) [128, 129, 130, 131, 132, 133, 134, 135] [eqV (.agg #[.slice (p 0) (m.row 0).length (c 0), .slice (p 1) (m.row 1).length (c 1), .slice (p 2) (m.row 2).length (c 2), .slice (p 3) (m.row 3).length (c 3), .int .i64 (m.n : Nat)]), eqV (.pointer (some ⟨g8, 0, none⟩)), eqV (.int .i64 a.x.loc), listW (listF m a.x.loc), eqV (.agg #[.slice (p' 0) (m2.row 0).length (c' 0), .slice (p' 1) (m2.row 1).length (c' 1), .slice (p' 2) (m2.row 2).length (c' 2), .slice (p' 3) (m2.row 3).length (c' 3), .int .i64 (m2.n : Nat)]), eqV (.pointer (some ⟨g8, 0, none⟩)), eqV (.int .i64 a.x.loc), listW (listF m2 a.x.loc)] (by kernel_rfl) (by kernel_rfl) (by kernel_rfl) (by kernel_rfl) (by rfl)
          (by simp only [List.mem_cons, List.not_mem_nil, or_false, forall_eq_or_imp, forall_eq]; refine ⟨?_, ?_, ?_, ?_, ?_, ?_, ?_, ?_⟩ <;> (first | exact eqV_mono _ | exact memE_mono _ _ | exact memW_mono _ | exact listW_mono _ | exact boxP_mono _)) ?_ ?_
        · intro i o hi ho A W hW hk he
          simp only [List.length_cons, List.length_nil, Nat.zero_add, Nat.reduceAdd] at hi
          obtain rfl | rfl | rfl | rfl | rfl | rfl | rfl | rfl : i = 0 ∨ i = 1 ∨ i = 2 ∨ i = 3 ∨ i = 4 ∨ i = 5 ∨ i = 6 ∨ i = 7 := by omega
          · injection ho with ho; subst ho
            refine .inl ⟨wanted_free rfl, ?_⟩
            have h9 : A.tmps[9]?.getD undef = .pointer (some ⟨g9, 0, none⟩) := hk 9 (by rfl)
            have c0 := ((HAW2.out.grown hW).at9).cell 0
            have c1 := ((HAW2.out.grown hW).at9).cell 1
            have c2 := ((HAW2.out.grown hW).at9).cell 2
            have c3 := ((HAW2.out.grown hW).at9).cell 3
            have c4 := ((HAW2.out.grown hW).at9).cell 4
            go_simp
            exact ⟨rfl, Below.refl _ _⟩
          · injection ho with ho; subst ho
            refine .inl ⟨wanted_free rfl, ?_⟩
            have h8 : A.tmps[8]?.getD undef = .pointer (some ⟨g8, 0, none⟩) := hk 8 (by rfl)
            go_simp
            exact ⟨rfl, Below.refl _ _⟩
          · injection ho with ho; subst ho
            refine .inl ⟨wanted_free rfl, ?_⟩
            have h129 : A.tmps[129]?.getD undef = .pointer (some ⟨g8, 0, none⟩) := he 1 (by kernel_rfl)
            have c0 := ((HAW2.out.grown hW).at8).cell 0
            go_simp
            exact ⟨rfl, Below.refl _ _⟩
          · injection ho with ho; subst ho
            refine .inl ⟨wanted_free rfl, ?_⟩
            have h128 : A.tmps[128]?.getD undef = .agg #[.slice (p 0) (m.row 0).length (c 0), .slice (p 1) (m.row 1).length (c 1), .slice (p 2) (m.row 2).length (c 2), .slice (p 3) (m.row 3).length (c 3), .int .i64 (m.n : Nat)] := he 0 (by kernel_rfl)
            have h130 : A.tmps[130]?.getD undef = .int .i64 a.x.loc := he 2 (by kernel_rfl)
            go_simp
            refine Calls.mono (list_any p c m HO.out a.x.loc W (HAW2.out.grown hW).hold) ?_
            rintro e' w' ⟨r2, d2, rfl, hh, hb⟩
            exact ⟨_, rfl, ⟨r2, d2, hh, rfl⟩, hb⟩
          · injection ho with ho; subst ho
            refine .inl ⟨wanted_free rfl, ?_⟩
            have h5 : A.tmps[5]?.getD undef = .pointer (some ⟨g5, 0, none⟩) := hk 5 (by rfl)
            have c0 := ((HAW2.out.grown hW).at5).cell 0
            have c1 := ((HAW2.out.grown hW).at5).cell 1
            have c2 := ((HAW2.out.grown hW).at5).cell 2
            have c3 := ((HAW2.out.grown hW).at5).cell 3
            have c4 := ((HAW2.out.grown hW).at5).cell 4
            go_simp
            exact ⟨rfl, Below.refl _ _⟩
          · injection ho with ho; subst ho
            refine .inl ⟨wanted_free rfl, ?_⟩
            have h8 : A.tmps[8]?.getD undef = .pointer (some ⟨g8, 0, none⟩) := hk 8 (by rfl)
            go_simp
            exact ⟨rfl, Below.refl _ _⟩
          · injection ho with ho; subst ho
            refine .inl ⟨wanted_free rfl, ?_⟩
            have h133 : A.tmps[133]?.getD undef = .pointer (some ⟨g8, 0, none⟩) := he 5 (by kernel_rfl)
            have c0 := ((HAW2.out.grown hW).at8).cell 0
            go_simp
            exact ⟨rfl, Below.refl _ _⟩
          · injection ho with ho; subst ho
            refine .inl ⟨wanted_free rfl, ?_⟩
            have h132 : A.tmps[132]?.getD undef = .agg #[.slice (p' 0) (m2.row 0).length (c' 0), .slice (p' 1) (m2.row 1).length (c' 1), .slice (p' 2) (m2.row 2).length (c' 2), .slice (p' 3) (m2.row 3).length (c' 3), .int .i64 (m2.n : Nat)] := he 4 (by kernel_rfl)
            have h134 : A.tmps[134]?.getD undef = .int .i64 a.x.loc := he 6 (by kernel_rfl)
            go_simp
            refine Calls.mono (list_any p' c' m2 HO2.out a.x.loc W (HAW2.out.grown hW).hold') ?_
            rintro e' w' ⟨r2, d2, rfl, hh, hb⟩
            exact ⟨_, rfl, ⟨r2, d2, hh, rfl⟩, hb⟩
        · intro xs W hW hV
          obtain ⟨r131, d131, H131, e131⟩ : listW (listF m a.x.loc) (xs 3) W := hV 3 (by simp)
          obtain ⟨r135, d135, H135, e135⟩ : listW (listF m2 a.x.loc) (xs 7) W := hV 7 (by simp)
          simp only [List.length_cons, List.length_nil, Nat.zero_add, Nat.reduceAdd, List.drop_succ_cons, List.drop_zero, putL, Act.put, List.setIfInBounds_toArray, List.set_cons_zero, List.set_cons_succ, e131, e135]
          clear hV e131 e135
          have HAW3 := Lib.hid (HAW2.out.grown hW)
          have HI1 := Lib.hid H131
          have HI2 := Lib.hid H135
          clear hW H131 H135
          have i131 : ((listF m a.x.loc).length : Int) ≤ 40 := by have := list_few HO.out a.x.loc; omega
          have i135 : ((listF m2 a.x.loc).length : Int) ≤ 40 := by have := list_few HO2.out a.x.loc; omega
          rename_i W3
          go_upto_region 23 with (fail)
          refine wp_cut (fun A W => Fr 230 [(0, .slice ps start.length cs), (1, .slice (some ⟨g, o, none⟩) l.length cl), (5, .pointer (some ⟨g5, 0, none⟩)), (7, .int .i64 (i : Nat)), (8, .pointer (some ⟨g8, 0, none⟩)), (9, .pointer (some ⟨g9, 0, none⟩)), (10, .int .i64 f), (13, .slice r131 (listF m a.x.loc).length d131), (14, .slice r135 (listF m2 a.x.loc).length d135), (176, .bool false)] A ∧ AW w g5 g8 g9 a.x p c m p' c' m2 W ∧ Its W r135 (listF m2 a.x.loc)) ?rest3 ?first3
          case first3 =>
            intro J K hJ hK
            by_cases hf : f = 0
            rotate_left
            · obtain rfl : m2 = m := HNO.out hf
              have kf : (f != 0) = true := by simpa using hf
              have kf2 : (f == 0) = false := by simpa using hf
              clear hf HNO HYES
              refine wp_flowG [136, 137, 138, 139, 140, 141, 142, 143, 144, 145, 146, 147, 148, 149, 150, 151, 152, 153, 154, 155, 156, 157, 158, 159, 160, 161, 162, 163, 164, 165, 166, 167, 168, 169, 170, 171, 172, 173, 174, 175] [eqV (.int .i64 f), eqV (.bool true), eqV (.bool true), eqV (.slice r131 (listF m2 a.x.loc).length d131), eqV (.slice r135 (listF m2 a.x.loc).length d135), eqV (.bool true), eqV (.bool false), eqV (.bool false), eqV (.bool false), eqV (.int .i64 f), eqV (.bool false), eqV (.bool false), eqV undef, eqV undef, eqV undef, eqV undef, eqV undef, eqV undef, eqV (.bool false), eqV (.bool false), eqV undef, eqV undef, eqV undef, eqV undef, eqV undef, eqV undef, eqV undef, eqV undef, eqV undef, eqV undef, eqV undef, eqV undef, eqV undef, eqV undef, eqV undef, eqV undef, eqV undef, eqV undef, eqV undef, eqV (.bool false)] (by kernel_rfl) (by kernel_rfl) (by kernel_rfl) (by kernel_rfl) (by rfl)
                (by simp only [List.mem_cons, List.not_mem_nil, or_false, forall_eq_or_imp, forall_eq]; refine ⟨?_, ?_, ?_, ?_, ?_, ?_, ?_, ?_, ?_, ?_, ?_, ?_, ?_, ?_, ?_, ?_, ?_, ?_, ?_, ?_, ?_, ?_, ?_, ?_, ?_, ?_, ?_, ?_, ?_, ?_, ?_, ?_, ?_, ?_, ?_, ?_, ?_, ?_, ?_, ?_⟩ <;> (first | exact eqV_mono _ | exact memE_mono _ _ | exact memW_mono _ | exact listW_mono _ | exact boxP_mono _)) ?_ ?_
              · intro i o hi ho A W hW hk he
                simp only [List.length_cons, List.length_nil, Nat.zero_add, Nat.reduceAdd] at hi
                obtain rfl | rfl | rfl | rfl | rfl | rfl | rfl | rfl | rfl | rfl | rfl | rfl | rfl | rfl | rfl | rfl | rfl | rfl | rfl | rfl | rfl | rfl | rfl | rfl | rfl | rfl | rfl | rfl | rfl | rfl | rfl | rfl | rfl | rfl | rfl | rfl | rfl | rfl | rfl | rfl : i = 0 ∨ i = 1 ∨ i = 2 ∨ i = 3 ∨ i = 4 ∨ i = 5 ∨ i = 6 ∨ i = 7 ∨ i = 8 ∨ i = 9 ∨ i = 10 ∨ i = 11 ∨ i = 12 ∨ i = 13 ∨ i = 14 ∨ i = 15 ∨ i = 16 ∨ i = 17 ∨ i = 18 ∨ i = 19 ∨ i = 20 ∨ i = 21 ∨ i = 22 ∨ i = 23 ∨ i = 24 ∨ i = 25 ∨ i = 26 ∨ i = 27 ∨ i = 28 ∨ i = 29 ∨ i = 30 ∨ i = 31 ∨ i = 32 ∨ i = 33 ∨ i = 34 ∨ i = 35 ∨ i = 36 ∨ i = 37 ∨ i = 38 ∨ i = 39 := by omega
                · injection ho with ho; subst ho
                  refine .inl ⟨wanted_free rfl, ?_⟩
                  have h10 : A.tmps[10]?.getD undef = .int .i64 f := hk 10 (by rfl)
                  go_simp
                  exact ⟨rfl, Below.refl _ _⟩
                · injection ho with ho; subst ho
                  refine .inl ⟨wanted_free rfl, ?_⟩
                  have h136 : A.tmps[136]?.getD undef = .int .i64 f := he 0 (by kernel_rfl)
                  go_simp
                  exact ⟨rfl, Below.refl _ _⟩
                · injection ho with ho; subst ho
                  refine .inl ⟨wanted_free rfl, ?_⟩
                  have h137 : A.tmps[137]?.getD undef = .bool true := he 1 (by kernel_rfl)
                  go_simp
                  exact ⟨rfl, Below.refl _ _⟩
                · injection ho with ho; subst ho
                  have hg : A.tmps[138]?.getD undef = .bool true := he 2 (by kernel_rfl)
                  refine .inl ⟨wanted_yes (d := 138) rfl (by kernel_rfl) hg, ?_⟩
                  have h13 : A.tmps[13]?.getD undef = .slice r131 (listF m2 a.x.loc).length d131 := hk 13 (by rfl)
                  go_simp
                  exact ⟨rfl, Below.refl _ _⟩
                · injection ho with ho; subst ho
                  have hg : A.tmps[138]?.getD undef = .bool true := he 2 (by kernel_rfl)
                  refine .inl ⟨wanted_yes (d := 138) rfl (by kernel_rfl) hg, ?_⟩
                  have h14 : A.tmps[14]?.getD undef = .slice r135 (listF m2 a.x.loc).length d135 := hk 14 (by rfl)
                  go_simp
                  exact ⟨rfl, Below.refl _ _⟩
                · injection ho with ho; subst ho
                  have hg : A.tmps[138]?.getD undef = .bool true := he 2 (by kernel_rfl)
                  refine .inl ⟨wanted_yes (d := 138) rfl (by kernel_rfl) hg, ?_⟩
                  have h139 : A.tmps[139]?.getD undef = .slice r131 (listF m2 a.x.loc).length d131 := he 3 (by kernel_rfl)
                  have h140 : A.tmps[140]?.getD undef = .slice r135 (listF m2 a.x.loc).length d135 := he 4 (by kernel_rfl)
                  go_simp
                  refine Calls.mono (alike_any (listF m2 a.x.loc) (by have := list_few HO.out a.x.loc; omega) (fun x hx => fit_may (list_mem HO.out hx)) r131 r135 d131 d135 W (HI1.out.below hW) (HI2.out.below hW)) ?_
                  rintro e' w' ⟨rfl, hb⟩
                  exact ⟨_, rfl, rfl, hb⟩
                · injection ho with ho; subst ho
                  have hg : A.tmps[138]?.getD undef = .bool true := he 2 (by kernel_rfl)
                  refine .inl ⟨wanted_yes (d := 138) rfl (by kernel_rfl) hg, ?_⟩
                  have h141 : A.tmps[141]?.getD undef = .bool true := he 5 (by kernel_rfl)
                  go_simp
                  exact ⟨rfl, Below.refl _ _⟩
                · injection ho with ho; subst ho
                  refine .inl ⟨wanted_free rfl, ?_⟩
                  have h138 : A.tmps[138]?.getD undef = .bool true := he 2 (by kernel_rfl)
                  have h142 : A.tmps[142]?.getD undef = .bool false := he 6 (by kernel_rfl)
                  go_simp
                  exact ⟨rfl, Below.refl _ _⟩
                · injection ho with ho; subst ho
                  refine .inl ⟨wanted_free rfl, ?_⟩
                  have h143 : A.tmps[143]?.getD undef = .bool false := he 7 (by kernel_rfl)
                  go_simp
                  exact ⟨rfl, Below.refl _ _⟩
                · injection ho with ho; subst ho
                  have hg : A.tmps[144]?.getD undef = .bool false := he 8 (by kernel_rfl)
                  refine .inl ⟨wanted_yes (d := 144) rfl (by kernel_rfl) hg, ?_⟩
                  have h10 : A.tmps[10]?.getD undef = .int .i64 f := hk 10 (by rfl)
                  go_simp
                  exact ⟨rfl, Below.refl _ _⟩
                · injection ho with ho; subst ho
                  have hg : A.tmps[144]?.getD undef = .bool false := he 8 (by kernel_rfl)
                  refine .inl ⟨wanted_yes (d := 144) rfl (by kernel_rfl) hg, ?_⟩
                  have h145 : A.tmps[145]?.getD undef = .int .i64 f := he 9 (by kernel_rfl)
                  go_simp
                  exact ⟨rfl, Below.refl _ _⟩
                · injection ho with ho; subst ho
                  have hg : A.tmps[144]?.getD undef = .bool false := he 8 (by kernel_rfl)
                  refine .inl ⟨wanted_yes (d := 144) rfl (by kernel_rfl) hg, ?_⟩
                  have h146 : A.tmps[146]?.getD undef = .bool false := he 10 (by kernel_rfl)
                  go_simp
                  exact ⟨rfl, Below.refl _ _⟩
                · injection ho with ho; subst ho
                  have hg : A.tmps[147]?.getD undef = .bool false := he 11 (by kernel_rfl)
                  exact .inr ⟨wanted_no (d := 147) rfl (by kernel_rfl) hg, rfl⟩
                · injection ho with ho; subst ho
                  have hg : A.tmps[147]?.getD undef = .bool false := he 11 (by kernel_rfl)
                  exact .inr ⟨wanted_no (d := 147) rfl (by kernel_rfl) hg, rfl⟩
                · injection ho with ho; subst ho
                  have hg : A.tmps[147]?.getD undef = .bool false := he 11 (by kernel_rfl)
                  exact .inr ⟨wanted_no (d := 147) rfl (by kernel_rfl) hg, rfl⟩
                · injection ho with ho; subst ho
                  have hg : A.tmps[147]?.getD undef = .bool false := he 11 (by kernel_rfl)
                  exact .inr ⟨wanted_no (d := 147) rfl (by kernel_rfl) hg, rfl⟩
                · injection ho with ho; subst ho
                  have hg : A.tmps[147]?.getD undef = .bool false := he 11 (by kernel_rfl)
                  exact .inr ⟨wanted_no (d := 147) rfl (by kernel_rfl) hg, rfl⟩
                · injection ho with ho; subst ho
                  have hg : A.tmps[147]?.getD undef = .bool false := he 11 (by kernel_rfl)
                  exact .inr ⟨wanted_no (d := 147) rfl (by kernel_rfl) hg, rfl⟩
                · injection ho with ho; subst ho
                  have hg : A.tmps[144]?.getD undef = .bool false := he 8 (by kernel_rfl)
                  refine .inl ⟨wanted_yes (d := 144) rfl (by kernel_rfl) hg, ?_⟩
                  have h147 : A.tmps[147]?.getD undef = .bool false := he 11 (by kernel_rfl)
                  have h153 : A.tmps[153]?.getD undef = undef := he 17 (by kernel_rfl)
                  go_simp
                  exact ⟨rfl, Below.refl _ _⟩
                · injection ho with ho; subst ho
                  have hg : A.tmps[144]?.getD undef = .bool false := he 8 (by kernel_rfl)
                  refine .inl ⟨wanted_yes (d := 144) rfl (by kernel_rfl) hg, ?_⟩
                  have h154 : A.tmps[154]?.getD undef = .bool false := he 18 (by kernel_rfl)
                  go_simp
                  exact ⟨rfl, Below.refl _ _⟩
                · injection ho with ho; subst ho
                  have hg : A.tmps[155]?.getD undef = .bool false := he 19 (by kernel_rfl)
                  exact .inr ⟨wanted_no (d := 155) rfl (by kernel_rfl) hg, rfl⟩
                · injection ho with ho; subst ho
                  have hg : A.tmps[155]?.getD undef = .bool false := he 19 (by kernel_rfl)
                  exact .inr ⟨wanted_no (d := 155) rfl (by kernel_rfl) hg, rfl⟩
                · injection ho with ho; subst ho
                  have hg : A.tmps[155]?.getD undef = .bool false := he 19 (by kernel_rfl)
                  exact .inr ⟨wanted_no (d := 155) rfl (by kernel_rfl) hg, rfl⟩
                · injection ho with ho; subst ho
                  have hg : A.tmps[155]?.getD undef = .bool false := he 19 (by kernel_rfl)
                  exact .inr ⟨wanted_no (d := 155) rfl (by kernel_rfl) hg, rfl⟩
                · injection ho with ho; subst ho
                  have hg : A.tmps[155]?.getD undef = .bool false := he 19 (by kernel_rfl)
                  exact .inr ⟨wanted_no (d := 155) rfl (by kernel_rfl) hg, rfl⟩
                · injection ho with ho; subst ho
                  have hg : A.tmps[155]?.getD undef = .bool false := he 19 (by kernel_rfl)
                  exact .inr ⟨wanted_no (d := 155) rfl (by kernel_rfl) hg, rfl⟩
                · injection ho with ho; subst ho
                  have hg : A.tmps[161]?.getD undef = undef := he 25 (by kernel_rfl)
                  exact .inr ⟨wanted_dead (d := 161) rfl (by kernel_rfl) hg, rfl⟩
                · injection ho with ho; subst ho
                  have hg : A.tmps[161]?.getD undef = undef := he 25 (by kernel_rfl)
                  exact .inr ⟨wanted_dead (d := 161) rfl (by kernel_rfl) hg, rfl⟩
                · injection ho with ho; subst ho
                  have hg : A.tmps[161]?.getD undef = undef := he 25 (by kernel_rfl)
                  exact .inr ⟨wanted_dead (d := 161) rfl (by kernel_rfl) hg, rfl⟩
                · injection ho with ho; subst ho
                  have hg : A.tmps[161]?.getD undef = undef := he 25 (by kernel_rfl)
                  exact .inr ⟨wanted_dead (d := 161) rfl (by kernel_rfl) hg, rfl⟩
                · injection ho with ho; subst ho
                  have hg : A.tmps[161]?.getD undef = undef := he 25 (by kernel_rfl)
                  exact .inr ⟨wanted_dead (d := 161) rfl (by kernel_rfl) hg, rfl⟩
                · injection ho with ho; subst ho
                  have hg : A.tmps[161]?.getD undef = undef := he 25 (by kernel_rfl)
                  exact .inr ⟨wanted_dead (d := 161) rfl (by kernel_rfl) hg, rfl⟩
                · injection ho with ho; subst ho
                  have hg : A.tmps[161]?.getD undef = undef := he 25 (by kernel_rfl)
                  exact .inr ⟨wanted_dead (d := 161) rfl (by kernel_rfl) hg, rfl⟩
                · injection ho with ho; subst ho
                  have hg : A.tmps[161]?.getD undef = undef := he 25 (by kernel_rfl)
                  exact .inr ⟨wanted_dead (d := 161) rfl (by kernel_rfl) hg, rfl⟩
                · injection ho with ho; subst ho
                  have hg : A.tmps[161]?.getD undef = undef := he 25 (by kernel_rfl)
                  exact .inr ⟨wanted_dead (d := 161) rfl (by kernel_rfl) hg, rfl⟩
                · injection ho with ho; subst ho
                  have hg : A.tmps[161]?.getD undef = undef := he 25 (by kernel_rfl)
                  exact .inr ⟨wanted_dead (d := 161) rfl (by kernel_rfl) hg, rfl⟩
                · injection ho with ho; subst ho
                  have hg : A.tmps[161]?.getD undef = undef := he 25 (by kernel_rfl)
                  exact .inr ⟨wanted_dead (d := 161) rfl (by kernel_rfl) hg, rfl⟩
                · injection ho with ho; subst ho
                  have hg : A.tmps[161]?.getD undef = undef := he 25 (by kernel_rfl)
                  exact .inr ⟨wanted_dead (d := 161) rfl (by kernel_rfl) hg, rfl⟩
                · injection ho with ho; subst ho
                  have hg : A.tmps[155]?.getD undef = .bool false := he 19 (by kernel_rfl)
                  exact .inr ⟨wanted_no (d := 155) rfl (by kernel_rfl) hg, rfl⟩
                · injection ho with ho; subst ho
                  have hg : A.tmps[144]?.getD undef = .bool false := he 8 (by kernel_rfl)
                  refine .inl ⟨wanted_yes (d := 144) rfl (by kernel_rfl) hg, ?_⟩
                  have h155 : A.tmps[155]?.getD undef = .bool false := he 19 (by kernel_rfl)
                  have h174 : A.tmps[174]?.getD undef = undef := he 38 (by kernel_rfl)
                  go_simp
                  exact ⟨rfl, Below.refl _ _⟩
              · intro xs W hW hV
                have e144 : xs 8 = .bool false := hV 8 (by simp)
                have e175 : xs 39 = .bool false := hV 39 (by simp)
                simp only [List.length_cons, List.length_nil, Nat.zero_add, Nat.reduceAdd, List.drop_succ_cons, List.drop_zero, putL, Act.put, List.setIfInBounds_toArray, List.set_cons_zero, List.set_cons_succ, e144, e175]
                clear hV e144 e175
                have HAW4 := Lib.hid (HAW3.out.grown hW)
                have HI3 := Lib.hid (HI2.out.below hW)
                clear hW
                go_wp2_with fail
                refine Met.intro ?_
                go_step
                exact ⟨⟨rfl, rfl, by simp only [List.mem_cons, List.not_mem_nil, or_false, forall_eq_or_imp, forall_eq]; exact ⟨rfl, rfl, rfl, rfl, rfl, rfl, rfl, rfl, rfl, rfl⟩⟩, HAW4.out, HI3.out⟩
            subst hf
            by_cases hd : a.do_ = 0
            rotate_left
            · have kd : (a.do_ == 0) = false := by simpa using hd
              clear hd HNO HYES
              refine wp_flowG [136, 137, 138, 139, 140, 141, 142, 143, 144, 145, 146, 147, 148, 149, 150, 151, 152, 153, 154, 155, 156, 157, 158, 159, 160, 161, 162, 163, 164, 165, 166, 167, 168, 169, 170, 171, 172, 173, 174, 175] [eqV (.int .i64 0), eqV (.bool false), eqV (.bool false), eqV undef, eqV undef, eqV undef, eqV undef, eqV (.bool false), eqV (.bool false), eqV (.int .i64 0), eqV (.bool true), eqV (.bool true), eqV (.slice (some ⟨g, o, none⟩) l.length cl), eqV (.int .i64 (i : Nat)), eqV (.pointer (some ⟨g, o + i * 15, none⟩)), eqV (.pointer (some ⟨g, o + i * 15, none⟩)), eqV (.int .u8 a.do_), eqV (.bool false), eqV (.bool false), eqV (.bool false), eqV undef, eqV undef, eqV undef, eqV undef, eqV undef, eqV undef, eqV undef, eqV undef, eqV undef, eqV undef, eqV undef, eqV undef, eqV undef, eqV undef, eqV undef, eqV undef, eqV undef, eqV undef, eqV undef, eqV (.bool false)] (by kernel_rfl) (by kernel_rfl) (by kernel_rfl) (by kernel_rfl) (by rfl)
                (by simp only [List.mem_cons, List.not_mem_nil, or_false, forall_eq_or_imp, forall_eq]; refine ⟨?_, ?_, ?_, ?_, ?_, ?_, ?_, ?_, ?_, ?_, ?_, ?_, ?_, ?_, ?_, ?_, ?_, ?_, ?_, ?_, ?_, ?_, ?_, ?_, ?_, ?_, ?_, ?_, ?_, ?_, ?_, ?_, ?_, ?_, ?_, ?_, ?_, ?_, ?_, ?_⟩ <;> (first | exact eqV_mono _ | exact memE_mono _ _ | exact memW_mono _ | exact listW_mono _ | exact boxP_mono _)) ?_ ?_
              · intro i o hi ho A W hW hk he
                simp only [List.length_cons, List.length_nil, Nat.zero_add, Nat.reduceAdd] at hi
                obtain rfl | rfl | rfl | rfl | rfl | rfl | rfl | rfl | rfl | rfl | rfl | rfl | rfl | rfl | rfl | rfl | rfl | rfl | rfl | rfl | rfl | rfl | rfl | rfl | rfl | rfl | rfl | rfl | rfl | rfl | rfl | rfl | rfl | rfl | rfl | rfl | rfl | rfl | rfl | rfl : i = 0 ∨ i = 1 ∨ i = 2 ∨ i = 3 ∨ i = 4 ∨ i = 5 ∨ i = 6 ∨ i = 7 ∨ i = 8 ∨ i = 9 ∨ i = 10 ∨ i = 11 ∨ i = 12 ∨ i = 13 ∨ i = 14 ∨ i = 15 ∨ i = 16 ∨ i = 17 ∨ i = 18 ∨ i = 19 ∨ i = 20 ∨ i = 21 ∨ i = 22 ∨ i = 23 ∨ i = 24 ∨ i = 25 ∨ i = 26 ∨ i = 27 ∨ i = 28 ∨ i = 29 ∨ i = 30 ∨ i = 31 ∨ i = 32 ∨ i = 33 ∨ i = 34 ∨ i = 35 ∨ i = 36 ∨ i = 37 ∨ i = 38 ∨ i = 39 := by omega
                · injection ho with ho; subst ho
                  refine .inl ⟨wanted_free rfl, ?_⟩
                  have h10 : A.tmps[10]?.getD undef = .int .i64 0 := hk 10 (by rfl)
                  go_simp
                  exact ⟨rfl, Below.refl _ _⟩
                · injection ho with ho; subst ho
                  refine .inl ⟨wanted_free rfl, ?_⟩
                  have h136 : A.tmps[136]?.getD undef = .int .i64 0 := he 0 (by kernel_rfl)
                  go_simp
                  exact ⟨rfl, Below.refl _ _⟩
                · injection ho with ho; subst ho
                  refine .inl ⟨wanted_free rfl, ?_⟩
                  have h137 : A.tmps[137]?.getD undef = .bool false := he 1 (by kernel_rfl)
                  go_simp
                  exact ⟨rfl, Below.refl _ _⟩
                · injection ho with ho; subst ho
                  have hg : A.tmps[138]?.getD undef = .bool false := he 2 (by kernel_rfl)
                  exact .inr ⟨wanted_no (d := 138) rfl (by kernel_rfl) hg, rfl⟩
                · injection ho with ho; subst ho
                  have hg : A.tmps[138]?.getD undef = .bool false := he 2 (by kernel_rfl)
                  exact .inr ⟨wanted_no (d := 138) rfl (by kernel_rfl) hg, rfl⟩
                · injection ho with ho; subst ho
                  have hg : A.tmps[138]?.getD undef = .bool false := he 2 (by kernel_rfl)
                  exact .inr ⟨wanted_no (d := 138) rfl (by kernel_rfl) hg, rfl⟩
                · injection ho with ho; subst ho
                  have hg : A.tmps[138]?.getD undef = .bool false := he 2 (by kernel_rfl)
                  exact .inr ⟨wanted_no (d := 138) rfl (by kernel_rfl) hg, rfl⟩
                · injection ho with ho; subst ho
                  refine .inl ⟨wanted_free rfl, ?_⟩
                  have h138 : A.tmps[138]?.getD undef = .bool false := he 2 (by kernel_rfl)
                  have h142 : A.tmps[142]?.getD undef = undef := he 6 (by kernel_rfl)
                  go_simp
                  exact ⟨rfl, Below.refl _ _⟩
                · injection ho with ho; subst ho
                  refine .inl ⟨wanted_free rfl, ?_⟩
                  have h143 : A.tmps[143]?.getD undef = .bool false := he 7 (by kernel_rfl)
                  go_simp
                  exact ⟨rfl, Below.refl _ _⟩
                · injection ho with ho; subst ho
                  have hg : A.tmps[144]?.getD undef = .bool false := he 8 (by kernel_rfl)
                  refine .inl ⟨wanted_yes (d := 144) rfl (by kernel_rfl) hg, ?_⟩
                  have h10 : A.tmps[10]?.getD undef = .int .i64 0 := hk 10 (by rfl)
                  go_simp
                  exact ⟨rfl, Below.refl _ _⟩
                · injection ho with ho; subst ho
                  have hg : A.tmps[144]?.getD undef = .bool false := he 8 (by kernel_rfl)
                  refine .inl ⟨wanted_yes (d := 144) rfl (by kernel_rfl) hg, ?_⟩
                  have h145 : A.tmps[145]?.getD undef = .int .i64 0 := he 9 (by kernel_rfl)
                  go_simp
                  exact ⟨rfl, Below.refl _ _⟩
                · injection ho with ho; subst ho
                  have hg : A.tmps[144]?.getD undef = .bool false := he 8 (by kernel_rfl)
                  refine .inl ⟨wanted_yes (d := 144) rfl (by kernel_rfl) hg, ?_⟩
                  have h146 : A.tmps[146]?.getD undef = .bool true := he 10 (by kernel_rfl)
                  go_simp
                  exact ⟨rfl, Below.refl _ _⟩
                · injection ho with ho; subst ho
                  have hg : A.tmps[147]?.getD undef = .bool true := he 11 (by kernel_rfl)
                  refine .inl ⟨wanted_yes (d := 147) rfl (by kernel_rfl) hg, ?_⟩
                  have h1 : A.tmps[1]?.getD undef = .slice (some ⟨g, o, none⟩) l.length cl := hk 1 (by rfl)
                  go_simp
                  exact ⟨rfl, Below.refl _ _⟩
                · injection ho with ho; subst ho
                  have hg : A.tmps[147]?.getD undef = .bool true := he 11 (by kernel_rfl)
                  refine .inl ⟨wanted_yes (d := 147) rfl (by kernel_rfl) hg, ?_⟩
                  have h7 : A.tmps[7]?.getD undef = .int .i64 (i : Nat) := hk 7 (by rfl)
                  go_simp
                  exact ⟨rfl, Below.refl _ _⟩
                · injection ho with ho; subst ho
                  have hg : A.tmps[147]?.getD undef = .bool true := he 11 (by kernel_rfl)
                  refine .inl ⟨wanted_yes (d := 147) rfl (by kernel_rfl) hg, ?_⟩
                  have h148 : A.tmps[148]?.getD undef = .slice (some ⟨g, o, none⟩) l.length cl := he 12 (by kernel_rfl)
                  have h149 : A.tmps[149]?.getD undef = .int .i64 (i : Nat) := he 13 (by kernel_rfl)
                  go_simp
                  exact ⟨rfl, Below.refl _ _⟩
                · injection ho with ho; subst ho
                  have hg : A.tmps[147]?.getD undef = .bool true := he 11 (by kernel_rfl)
                  refine .inl ⟨wanted_yes (d := 147) rfl (by kernel_rfl) hg, ?_⟩
                  have h150 : A.tmps[150]?.getD undef = .pointer (some ⟨g, o + i * 15, none⟩) := he 14 (by kernel_rfl)
                  go_simp
                  exact ⟨rfl, Below.refl _ _⟩
                · injection ho with ho; subst ho
                  have hg : A.tmps[147]?.getD undef = .bool true := he 11 (by kernel_rfl)
                  refine .inl ⟨wanted_yes (d := 147) rfl (by kernel_rfl) hg, ?_⟩
                  have h151 : A.tmps[151]?.getD undef = .pointer (some ⟨g, o + i * 15, none⟩) := he 15 (by kernel_rfl)
                  have c0 := HA0.out W (HAW3.out.grown hW).low
                  go_simp
                  exact ⟨rfl, Below.refl _ _⟩
                · injection ho with ho; subst ho
                  have hg : A.tmps[147]?.getD undef = .bool true := he 11 (by kernel_rfl)
                  refine .inl ⟨wanted_yes (d := 147) rfl (by kernel_rfl) hg, ?_⟩
                  have h152 : A.tmps[152]?.getD undef = .int .u8 a.do_ := he 16 (by kernel_rfl)
                  go_simp
                  exact ⟨rfl, Below.refl _ _⟩
                · injection ho with ho; subst ho
                  have hg : A.tmps[144]?.getD undef = .bool false := he 8 (by kernel_rfl)
                  refine .inl ⟨wanted_yes (d := 144) rfl (by kernel_rfl) hg, ?_⟩
                  have h147 : A.tmps[147]?.getD undef = .bool true := he 11 (by kernel_rfl)
                  have h153 : A.tmps[153]?.getD undef = .bool false := he 17 (by kernel_rfl)
                  go_simp
                  exact ⟨rfl, Below.refl _ _⟩
                · injection ho with ho; subst ho
                  have hg : A.tmps[144]?.getD undef = .bool false := he 8 (by kernel_rfl)
                  refine .inl ⟨wanted_yes (d := 144) rfl (by kernel_rfl) hg, ?_⟩
                  have h154 : A.tmps[154]?.getD undef = .bool false := he 18 (by kernel_rfl)
                  go_simp
                  exact ⟨rfl, Below.refl _ _⟩
                · injection ho with ho; subst ho
                  have hg : A.tmps[155]?.getD undef = .bool false := he 19 (by kernel_rfl)
                  exact .inr ⟨wanted_no (d := 155) rfl (by kernel_rfl) hg, rfl⟩
                · injection ho with ho; subst ho
                  have hg : A.tmps[155]?.getD undef = .bool false := he 19 (by kernel_rfl)
                  exact .inr ⟨wanted_no (d := 155) rfl (by kernel_rfl) hg, rfl⟩
                · injection ho with ho; subst ho
                  have hg : A.tmps[155]?.getD undef = .bool false := he 19 (by kernel_rfl)
                  exact .inr ⟨wanted_no (d := 155) rfl (by kernel_rfl) hg, rfl⟩
                · injection ho with ho; subst ho
                  have hg : A.tmps[155]?.getD undef = .bool false := he 19 (by kernel_rfl)
                  exact .inr ⟨wanted_no (d := 155) rfl (by kernel_rfl) hg, rfl⟩
                · injection ho with ho; subst ho
                  have hg : A.tmps[155]?.getD undef = .bool false := he 19 (by kernel_rfl)
                  exact .inr ⟨wanted_no (d := 155) rfl (by kernel_rfl) hg, rfl⟩
                · injection ho with ho; subst ho
                  have hg : A.tmps[155]?.getD undef = .bool false := he 19 (by kernel_rfl)
                  exact .inr ⟨wanted_no (d := 155) rfl (by kernel_rfl) hg, rfl⟩
                · injection ho with ho; subst ho
                  have hg : A.tmps[161]?.getD undef = undef := he 25 (by kernel_rfl)
                  exact .inr ⟨wanted_dead (d := 161) rfl (by kernel_rfl) hg, rfl⟩
                · injection ho with ho; subst ho
                  have hg : A.tmps[161]?.getD undef = undef := he 25 (by kernel_rfl)
                  exact .inr ⟨wanted_dead (d := 161) rfl (by kernel_rfl) hg, rfl⟩
                · injection ho with ho; subst ho
                  have hg : A.tmps[161]?.getD undef = undef := he 25 (by kernel_rfl)
                  exact .inr ⟨wanted_dead (d := 161) rfl (by kernel_rfl) hg, rfl⟩
                · injection ho with ho; subst ho
                  have hg : A.tmps[161]?.getD undef = undef := he 25 (by kernel_rfl)
                  exact .inr ⟨wanted_dead (d := 161) rfl (by kernel_rfl) hg, rfl⟩
                · injection ho with ho; subst ho
                  have hg : A.tmps[161]?.getD undef = undef := he 25 (by kernel_rfl)
                  exact .inr ⟨wanted_dead (d := 161) rfl (by kernel_rfl) hg, rfl⟩
                · injection ho with ho; subst ho
                  have hg : A.tmps[161]?.getD undef = undef := he 25 (by kernel_rfl)
                  exact .inr ⟨wanted_dead (d := 161) rfl (by kernel_rfl) hg, rfl⟩
                · injection ho with ho; subst ho
                  have hg : A.tmps[161]?.getD undef = undef := he 25 (by kernel_rfl)
                  exact .inr ⟨wanted_dead (d := 161) rfl (by kernel_rfl) hg, rfl⟩
                · injection ho with ho; subst ho
                  have hg : A.tmps[161]?.getD undef = undef := he 25 (by kernel_rfl)
                  exact .inr ⟨wanted_dead (d := 161) rfl (by kernel_rfl) hg, rfl⟩
                · injection ho with ho; subst ho
                  have hg : A.tmps[161]?.getD undef = undef := he 25 (by kernel_rfl)
                  exact .inr ⟨wanted_dead (d := 161) rfl (by kernel_rfl) hg, rfl⟩
                · injection ho with ho; subst ho
                  have hg : A.tmps[161]?.getD undef = undef := he 25 (by kernel_rfl)
                  exact .inr ⟨wanted_dead (d := 161) rfl (by kernel_rfl) hg, rfl⟩
                · injection ho with ho; subst ho
                  have hg : A.tmps[161]?.getD undef = undef := he 25 (by kernel_rfl)
                  exact .inr ⟨wanted_dead (d := 161) rfl (by kernel_rfl) hg, rfl⟩
                · injection ho with ho; subst ho
                  have hg : A.tmps[161]?.getD undef = undef := he 25 (by kernel_rfl)
                  exact .inr ⟨wanted_dead (d := 161) rfl (by kernel_rfl) hg, rfl⟩
                · injection ho with ho; subst ho
                  have hg : A.tmps[155]?.getD undef = .bool false := he 19 (by kernel_rfl)
                  exact .inr ⟨wanted_no (d := 155) rfl (by kernel_rfl) hg, rfl⟩
                · injection ho with ho; subst ho
                  have hg : A.tmps[144]?.getD undef = .bool false := he 8 (by kernel_rfl)
                  refine .inl ⟨wanted_yes (d := 144) rfl (by kernel_rfl) hg, ?_⟩
                  have h155 : A.tmps[155]?.getD undef = .bool false := he 19 (by kernel_rfl)
                  have h174 : A.tmps[174]?.getD undef = undef := he 38 (by kernel_rfl)
                  go_simp
                  exact ⟨rfl, Below.refl _ _⟩
              · intro xs W hW hV
                have e144 : xs 8 = .bool false := hV 8 (by simp)
                have e175 : xs 39 = .bool false := hV 39 (by simp)
                simp only [List.length_cons, List.length_nil, Nat.zero_add, Nat.reduceAdd, List.drop_succ_cons, List.drop_zero, putL, Act.put, List.setIfInBounds_toArray, List.set_cons_zero, List.set_cons_succ, e144, e175]
                clear hV e144 e175
                have HAW4 := Lib.hid (HAW3.out.grown hW)
                have HI3 := Lib.hid (HI2.out.below hW)
                clear hW
                go_wp2_with fail
                refine Met.intro ?_
                go_step
                exact ⟨⟨rfl, rfl, by simp only [List.mem_cons, List.not_mem_nil, or_false, forall_eq_or_imp, forall_eq]; exact ⟨rfl, rfl, rfl, rfl, rfl, rfl, rfl, rfl, rfl, rfl⟩⟩, HAW4.out, HI3.out⟩
            have kd : (a.do_ == 0) = true := by simpa using hd
            obtain ⟨hl1, hl2⟩ := HYES.out hd rfl
            have klen : (((listF m a.x.loc).length : Int) != ((listF m2 a.x.loc).length : Int)) = false := by rw [hl1]; simp
            have kown : (((ownedF m a.x.owner).length : Int) != ((ownedF m2 a.x.owner).length : Int) + 1) = false := by rw [hl2]; simp
            have io2 : ((ownedF m2 a.x.owner).length : Int) ≤ 160 := by have := owned_few HO2.out a.x.owner; omega
            clear hd HNO HYES hl1 hl2
            refine wp_flowG [136, 137, 138, 139, 140, 141, 142, 143, 144, 145, 146, 147, 148, 149, 150, 151, 152, 153, 154, 155, 156, 157, 158, 159, 160, 161, 162, 163, 164, 165, 166, 167, 168, 169, 170, 171, 172, 173, 174, 175] [eqV (.int .i64 0), eqV (.bool false), eqV (.bool false), eqV undef, eqV undef, eqV undef, eqV undef, eqV (.bool false), eqV (.bool false), eqV (.int .i64 0), eqV (.bool true), eqV (.bool true), eqV (.slice (some ⟨g, o, none⟩) l.length cl), eqV (.int .i64 (i : Nat)), eqV (.pointer (some ⟨g, o + i * 15, none⟩)), eqV (.pointer (some ⟨g, o + i * 15, none⟩)), eqV (.int .u8 a.do_), eqV (.bool true), eqV (.bool true), eqV (.bool true), eqV (.slice r131 (listF m a.x.loc).length d131), eqV (.int .i64 (listF m a.x.loc).length), eqV (.slice r135 (listF m2 a.x.loc).length d135), eqV (.int .i64 (listF m2 a.x.loc).length), eqV (.bool false), eqV (.bool false), eqV (.agg #[.slice (p 0) (m.row 0).length (c 0), .slice (p 1) (m.row 1).length (c 1), .slice (p 2) (m.row 2).length (c 2), .slice (p 3) (m.row 3).length (c 3), .int .i64 (m.n : Nat)]), eqV (.pointer (some ⟨g8, 13, none⟩)), eqV (.int .i64 a.x.owner), listW (ownedF m a.x.owner), eqV (.int .i64 (ownedF m a.x.owner).length), eqV (.agg #[.slice (p' 0) (m2.row 0).length (c' 0), .slice (p' 1) (m2.row 1).length (c' 1), .slice (p' 2) (m2.row 2).length (c' 2), .slice (p' 3) (m2.row 3).length (c' 3), .int .i64 (m2.n : Nat)]), eqV (.pointer (some ⟨g8, 13, none⟩)), eqV (.int .i64 a.x.owner), listW (ownedF m2 a.x.owner), eqV (.int .i64 (ownedF m2 a.x.owner).length), eqV (.int .i64 ((ownedF m2 a.x.owner).length + 1)), eqV (.bool false), eqV (.bool false), eqV (.bool false)] (by kernel_rfl) (by kernel_rfl) (by kernel_rfl) (by kernel_rfl) (by rfl)
              (by simp only [List.mem_cons, List.not_mem_nil, or_false, forall_eq_or_imp, forall_eq]; refine ⟨?_, ?_, ?_, ?_, ?_, ?_, ?_, ?_, ?_, ?_, ?_, ?_, ?_, ?_, ?_, ?_, ?_, ?_, ?_, ?_, ?_, ?_, ?_, ?_, ?_, ?_, ?_, ?_, ?_, ?_, ?_, ?_, ?_, ?_, ?_, ?_, ?_, ?_, ?_, ?_⟩ <;> (first | exact eqV_mono _ | exact memE_mono _ _ | exact memW_mono _ | exact listW_mono _ | exact boxP_mono _)) ?_ ?_
            · intro i o hi ho A W hW hk he
              simp only [List.length_cons, List.length_nil, Nat.zero_add, Nat.reduceAdd] at hi
              obtain rfl | rfl | rfl | rfl | rfl | rfl | rfl | rfl | rfl | rfl | rfl | rfl | rfl | rfl | rfl | rfl | rfl | rfl | rfl | rfl | rfl | rfl | rfl | rfl | rfl | rfl | rfl | rfl | rfl | rfl | rfl | rfl | rfl | rfl | rfl | rfl | rfl | rfl | rfl | rfl : i = 0 ∨ i = 1 ∨ i = 2 ∨ i = 3 ∨ i = 4 ∨ i = 5 ∨ i = 6 ∨ i = 7 ∨ i = 8 ∨ i = 9 ∨ i = 10 ∨ i = 11 ∨ i = 12 ∨ i = 13 ∨ i = 14 ∨ i = 15 ∨ i = 16 ∨ i = 17 ∨ i = 18 ∨ i = 19 ∨ i = 20 ∨ i = 21 ∨ i = 22 ∨ i = 23 ∨ i = 24 ∨ i = 25 ∨ i = 26 ∨ i = 27 ∨ i = 28 ∨ i = 29 ∨ i = 30 ∨ i = 31 ∨ i = 32 ∨ i = 33 ∨ i = 34 ∨ i = 35 ∨ i = 36 ∨ i = 37 ∨ i = 38 ∨ i = 39 := by omega
              · injection ho with ho; subst ho
                refine .inl ⟨wanted_free rfl, ?_⟩
                have h10 : A.tmps[10]?.getD undef = .int .i64 0 := hk 10 (by rfl)
                go_simp
                exact ⟨rfl, Below.refl _ _⟩
              · injection ho with ho; subst ho
                refine .inl ⟨wanted_free rfl, ?_⟩
                have h136 : A.tmps[136]?.getD undef = .int .i64 0 := he 0 (by kernel_rfl)
                go_simp
                exact ⟨rfl, Below.refl _ _⟩
              · injection ho with ho; subst ho
                refine .inl ⟨wanted_free rfl, ?_⟩
                have h137 : A.tmps[137]?.getD undef = .bool false := he 1 (by kernel_rfl)
                go_simp
                exact ⟨rfl, Below.refl _ _⟩
              · injection ho with ho; subst ho
                have hg : A.tmps[138]?.getD undef = .bool false := he 2 (by kernel_rfl)
                exact .inr ⟨wanted_no (d := 138) rfl (by kernel_rfl) hg, rfl⟩
              · injection ho with ho; subst ho
                have hg : A.tmps[138]?.getD undef = .bool false := he 2 (by kernel_rfl)
                exact .inr ⟨wanted_no (d := 138) rfl (by kernel_rfl) hg, rfl⟩
              · injection ho with ho; subst ho
                have hg : A.tmps[138]?.getD undef = .bool false := he 2 (by kernel_rfl)
                exact .inr ⟨wanted_no (d := 138) rfl (by kernel_rfl) hg, rfl⟩
              · injection ho with ho; subst ho
                have hg : A.tmps[138]?.getD undef = .bool false := he 2 (by kernel_rfl)
                exact .inr ⟨wanted_no (d := 138) rfl (by kernel_rfl) hg, rfl⟩
              · injection ho with ho; subst ho
                refine .inl ⟨wanted_free rfl, ?_⟩
                have h138 : A.tmps[138]?.getD undef = .bool false := he 2 (by kernel_rfl)
                have h142 : A.tmps[142]?.getD undef = undef := he 6 (by kernel_rfl)
                go_simp
                exact ⟨rfl, Below.refl _ _⟩
              · injection ho with ho; subst ho
                refine .inl ⟨wanted_free rfl, ?_⟩
                have h143 : A.tmps[143]?.getD undef = .bool false := he 7 (by kernel_rfl)
                go_simp
                exact ⟨rfl, Below.refl _ _⟩
              · injection ho with ho; subst ho
                have hg : A.tmps[144]?.getD undef = .bool false := he 8 (by kernel_rfl)
                refine .inl ⟨wanted_yes (d := 144) rfl (by kernel_rfl) hg, ?_⟩
                have h10 : A.tmps[10]?.getD undef = .int .i64 0 := hk 10 (by rfl)
                go_simp
                exact ⟨rfl, Below.refl _ _⟩
              · injection ho with ho; subst ho
                have hg : A.tmps[144]?.getD undef = .bool false := he 8 (by kernel_rfl)
                refine .inl ⟨wanted_yes (d := 144) rfl (by kernel_rfl) hg, ?_⟩
                have h145 : A.tmps[145]?.getD undef = .int .i64 0 := he 9 (by kernel_rfl)
                go_simp
                exact ⟨rfl, Below.refl _ _⟩
              · injection ho with ho; subst ho
                have hg : A.tmps[144]?.getD undef = .bool false := he 8 (by kernel_rfl)
                refine .inl ⟨wanted_yes (d := 144) rfl (by kernel_rfl) hg, ?_⟩
                have h146 : A.tmps[146]?.getD undef = .bool true := he 10 (by kernel_rfl)
                go_simp
                exact ⟨rfl, Below.refl _ _⟩
              · injection ho with ho; subst ho
                have hg : A.tmps[147]?.getD undef = .bool true := he 11 (by kernel_rfl)
                refine .inl ⟨wanted_yes (d := 147) rfl (by kernel_rfl) hg, ?_⟩
                have h1 : A.tmps[1]?.getD undef = .slice (some ⟨g, o, none⟩) l.length cl := hk 1 (by rfl)
                go_simp
                exact ⟨rfl, Below.refl _ _⟩
              · injection ho with ho; subst ho
                have hg : A.tmps[147]?.getD undef = .bool true := he 11 (by kernel_rfl)
                refine .inl ⟨wanted_yes (d := 147) rfl (by kernel_rfl) hg, ?_⟩
                have h7 : A.tmps[7]?.getD undef = .int .i64 (i : Nat) := hk 7 (by rfl)
                go_simp
                exact ⟨rfl, Below.refl _ _⟩
              · injection ho with ho; subst ho
                have hg : A.tmps[147]?.getD undef = .bool true := he 11 (by kernel_rfl)
                refine .inl ⟨wanted_yes (d := 147) rfl (by kernel_rfl) hg, ?_⟩
                have h148 : A.tmps[148]?.getD undef = .slice (some ⟨g, o, none⟩) l.length cl := he 12 (by kernel_rfl)
                have h149 : A.tmps[149]?.getD undef = .int .i64 (i : Nat) := he 13 (by kernel_rfl)
                go_simp
                exact ⟨rfl, Below.refl _ _⟩
              · injection ho with ho; subst ho
                have hg : A.tmps[147]?.getD undef = .bool true := he 11 (by kernel_rfl)
                refine .inl ⟨wanted_yes (d := 147) rfl (by kernel_rfl) hg, ?_⟩
                have h150 : A.tmps[150]?.getD undef = .pointer (some ⟨g, o + i * 15, none⟩) := he 14 (by kernel_rfl)
                go_simp
                exact ⟨rfl, Below.refl _ _⟩
              · injection ho with ho; subst ho
                have hg : A.tmps[147]?.getD undef = .bool true := he 11 (by kernel_rfl)
                refine .inl ⟨wanted_yes (d := 147) rfl (by kernel_rfl) hg, ?_⟩
                have h151 : A.tmps[151]?.getD undef = .pointer (some ⟨g, o + i * 15, none⟩) := he 15 (by kernel_rfl)
                have c0 := HA0.out W (HAW3.out.grown hW).low
                go_simp
                exact ⟨rfl, Below.refl _ _⟩
              · injection ho with ho; subst ho
                have hg : A.tmps[147]?.getD undef = .bool true := he 11 (by kernel_rfl)
                refine .inl ⟨wanted_yes (d := 147) rfl (by kernel_rfl) hg, ?_⟩
                have h152 : A.tmps[152]?.getD undef = .int .u8 a.do_ := he 16 (by kernel_rfl)
                go_simp
                exact ⟨rfl, Below.refl _ _⟩
              · injection ho with ho; subst ho
                have hg : A.tmps[144]?.getD undef = .bool false := he 8 (by kernel_rfl)
                refine .inl ⟨wanted_yes (d := 144) rfl (by kernel_rfl) hg, ?_⟩
                have h147 : A.tmps[147]?.getD undef = .bool true := he 11 (by kernel_rfl)
                have h153 : A.tmps[153]?.getD undef = .bool true := he 17 (by kernel_rfl)
                go_simp
                exact ⟨rfl, Below.refl _ _⟩
              · injection ho with ho; subst ho
                have hg : A.tmps[144]?.getD undef = .bool false := he 8 (by kernel_rfl)
                refine .inl ⟨wanted_yes (d := 144) rfl (by kernel_rfl) hg, ?_⟩
                have h154 : A.tmps[154]?.getD undef = .bool true := he 18 (by kernel_rfl)
                go_simp
                exact ⟨rfl, Below.refl _ _⟩
              · injection ho with ho; subst ho
                have hg : A.tmps[155]?.getD undef = .bool true := he 19 (by kernel_rfl)
                refine .inl ⟨wanted_yes (d := 155) rfl (by kernel_rfl) hg, ?_⟩
                have h13 : A.tmps[13]?.getD undef = .slice r131 (listF m a.x.loc).length d131 := hk 13 (by rfl)
                go_simp
                exact ⟨rfl, Below.refl _ _⟩
              · injection ho with ho; subst ho
                have hg : A.tmps[155]?.getD undef = .bool true := he 19 (by kernel_rfl)
                refine .inl ⟨wanted_yes (d := 155) rfl (by kernel_rfl) hg, ?_⟩
                have h156 : A.tmps[156]?.getD undef = .slice r131 (listF m a.x.loc).length d131 := he 20 (by kernel_rfl)
                go_simp
                exact ⟨rfl, Below.refl _ _⟩
              · injection ho with ho; subst ho
                have hg : A.tmps[155]?.getD undef = .bool true := he 19 (by kernel_rfl)
                refine .inl ⟨wanted_yes (d := 155) rfl (by kernel_rfl) hg, ?_⟩
                have h14 : A.tmps[14]?.getD undef = .slice r135 (listF m2 a.x.loc).length d135 := hk 14 (by rfl)
                go_simp
                exact ⟨rfl, Below.refl _ _⟩
              · injection ho with ho; subst ho
                have hg : A.tmps[155]?.getD undef = .bool true := he 19 (by kernel_rfl)
                refine .inl ⟨wanted_yes (d := 155) rfl (by kernel_rfl) hg, ?_⟩
                have h158 : A.tmps[158]?.getD undef = .slice r135 (listF m2 a.x.loc).length d135 := he 22 (by kernel_rfl)
                go_simp
                exact ⟨rfl, Below.refl _ _⟩
              · injection ho with ho; subst ho
                have hg : A.tmps[155]?.getD undef = .bool true := he 19 (by kernel_rfl)
                refine .inl ⟨wanted_yes (d := 155) rfl (by kernel_rfl) hg, ?_⟩
                have h157 : A.tmps[157]?.getD undef = .int .i64 (listF m a.x.loc).length := he 21 (by kernel_rfl)
                have h159 : A.tmps[159]?.getD undef = .int .i64 (listF m2 a.x.loc).length := he 23 (by kernel_rfl)
                go_simp
                exact ⟨rfl, Below.refl _ _⟩
              · injection ho with ho; subst ho
                have hg : A.tmps[155]?.getD undef = .bool true := he 19 (by kernel_rfl)
                refine .inl ⟨wanted_yes (d := 155) rfl (by kernel_rfl) hg, ?_⟩
                have h160 : A.tmps[160]?.getD undef = .bool false := he 24 (by kernel_rfl)
                go_simp
                exact ⟨rfl, Below.refl _ _⟩
              · injection ho with ho; subst ho
                have hg : A.tmps[161]?.getD undef = .bool false := he 25 (by kernel_rfl)
                refine .inl ⟨wanted_yes (d := 161) rfl (by kernel_rfl) hg, ?_⟩
                have h9 : A.tmps[9]?.getD undef = .pointer (some ⟨g9, 0, none⟩) := hk 9 (by rfl)
                have c0 := ((HAW3.out.grown hW).at9).cell 0
                have c1 := ((HAW3.out.grown hW).at9).cell 1
                have c2 := ((HAW3.out.grown hW).at9).cell 2
                have c3 := ((HAW3.out.grown hW).at9).cell 3
                have c4 := ((HAW3.out.grown hW).at9).cell 4
                go_simp
                exact ⟨rfl, Below.refl _ _⟩
              · injection ho with ho; subst ho
                have hg : A.tmps[161]?.getD undef = .bool false := he 25 (by kernel_rfl)
                refine .inl ⟨wanted_yes (d := 161) rfl (by kernel_rfl) hg, ?_⟩
                have h8 : A.tmps[8]?.getD undef = .pointer (some ⟨g8, 0, none⟩) := hk 8 (by rfl)
                go_simp
                exact ⟨rfl, Below.refl _ _⟩
              · injection ho with ho; subst ho
                have hg : A.tmps[161]?.getD undef = .bool false := he 25 (by kernel_rfl)
                refine .inl ⟨wanted_yes (d := 161) rfl (by kernel_rfl) hg, ?_⟩
                have h163 : A.tmps[163]?.getD undef = .pointer (some ⟨g8, 13, none⟩) := he 27 (by kernel_rfl)
                have c0 := ((HAW3.out.grown hW).at8).cell 13
                go_simp
                exact ⟨rfl, Below.refl _ _⟩
              · injection ho with ho; subst ho
                have hg : A.tmps[161]?.getD undef = .bool false := he 25 (by kernel_rfl)
                refine .inl ⟨wanted_yes (d := 161) rfl (by kernel_rfl) hg, ?_⟩
                have h162 : A.tmps[162]?.getD undef = .agg #[.slice (p 0) (m.row 0).length (c 0), .slice (p 1) (m.row 1).length (c 1), .slice (p 2) (m.row 2).length (c 2), .slice (p 3) (m.row 3).length (c 3), .int .i64 (m.n : Nat)] := he 26 (by kernel_rfl)
                have h164 : A.tmps[164]?.getD undef = .int .i64 a.x.owner := he 28 (by kernel_rfl)
                go_simp
                refine Calls.mono (owned_any p c m HO.out.few a.x.owner W (HAW3.out.grown hW).hold) ?_
                rintro e' w' ⟨r2, d2, rfl, hh, hb⟩
                exact ⟨_, rfl, ⟨r2, d2, hh, rfl⟩, hb⟩
              · injection ho with ho; subst ho
                have hg : A.tmps[161]?.getD undef = .bool false := he 25 (by kernel_rfl)
                refine .inl ⟨wanted_yes (d := 161) rfl (by kernel_rfl) hg, ?_⟩
                obtain ⟨r165, d165, H165, h165⟩ : listW (ownedF m a.x.owner) (A.tmps[165]?.getD undef) W := he 29 (by kernel_rfl)
                go_simp
                exact ⟨rfl, Below.refl _ _⟩
              · injection ho with ho; subst ho
                have hg : A.tmps[161]?.getD undef = .bool false := he 25 (by kernel_rfl)
                refine .inl ⟨wanted_yes (d := 161) rfl (by kernel_rfl) hg, ?_⟩
                have h5 : A.tmps[5]?.getD undef = .pointer (some ⟨g5, 0, none⟩) := hk 5 (by rfl)
                have c0 := ((HAW3.out.grown hW).at5).cell 0
                have c1 := ((HAW3.out.grown hW).at5).cell 1
                have c2 := ((HAW3.out.grown hW).at5).cell 2
                have c3 := ((HAW3.out.grown hW).at5).cell 3
                have c4 := ((HAW3.out.grown hW).at5).cell 4
                go_simp
                exact ⟨rfl, Below.refl _ _⟩
              · injection ho with ho; subst ho
                have hg : A.tmps[161]?.getD undef = .bool false := he 25 (by kernel_rfl)
                refine .inl ⟨wanted_yes (d := 161) rfl (by kernel_rfl) hg, ?_⟩
                have h8 : A.tmps[8]?.getD undef = .pointer (some ⟨g8, 0, none⟩) := hk 8 (by rfl)
                go_simp
                exact ⟨rfl, Below.refl _ _⟩
              · injection ho with ho; subst ho
                have hg : A.tmps[161]?.getD undef = .bool false := he 25 (by kernel_rfl)
                refine .inl ⟨wanted_yes (d := 161) rfl (by kernel_rfl) hg, ?_⟩
                have h168 : A.tmps[168]?.getD undef = .pointer (some ⟨g8, 13, none⟩) := he 32 (by kernel_rfl)
                have c0 := ((HAW3.out.grown hW).at8).cell 13
                go_simp
                exact ⟨rfl, Below.refl _ _⟩
              · injection ho with ho; subst ho
                have hg : A.tmps[161]?.getD undef = .bool false := he 25 (by kernel_rfl)
                refine .inl ⟨wanted_yes (d := 161) rfl (by kernel_rfl) hg, ?_⟩
                have h167 : A.tmps[167]?.getD undef = .agg #[.slice (p' 0) (m2.row 0).length (c' 0), .slice (p' 1) (m2.row 1).length (c' 1), .slice (p' 2) (m2.row 2).length (c' 2), .slice (p' 3) (m2.row 3).length (c' 3), .int .i64 (m2.n : Nat)] := he 31 (by kernel_rfl)
                have h169 : A.tmps[169]?.getD undef = .int .i64 a.x.owner := he 33 (by kernel_rfl)
                go_simp
                refine Calls.mono (owned_any p' c' m2 HO2.out.few a.x.owner W (HAW3.out.grown hW).hold') ?_
                rintro e' w' ⟨r2, d2, rfl, hh, hb⟩
                exact ⟨_, rfl, ⟨r2, d2, hh, rfl⟩, hb⟩
              · injection ho with ho; subst ho
                have hg : A.tmps[161]?.getD undef = .bool false := he 25 (by kernel_rfl)
                refine .inl ⟨wanted_yes (d := 161) rfl (by kernel_rfl) hg, ?_⟩
                obtain ⟨r170, d170, H170, h170⟩ : listW (ownedF m2 a.x.owner) (A.tmps[170]?.getD undef) W := he 34 (by kernel_rfl)
                go_simp
                exact ⟨rfl, Below.refl _ _⟩
              · injection ho with ho; subst ho
                have hg : A.tmps[161]?.getD undef = .bool false := he 25 (by kernel_rfl)
                refine .inl ⟨wanted_yes (d := 161) rfl (by kernel_rfl) hg, ?_⟩
                have h171 : A.tmps[171]?.getD undef = .int .i64 (ownedF m2 a.x.owner).length := he 35 (by kernel_rfl)
                have hwr := IntWalk.i64_in (((ownedF m2 a.x.owner).length : Int) + 1) (by have := owned_few HO2.out a.x.owner; omega)
                go_simp
                exact ⟨rfl, Below.refl _ _⟩
              · injection ho with ho; subst ho
                have hg : A.tmps[161]?.getD undef = .bool false := he 25 (by kernel_rfl)
                refine .inl ⟨wanted_yes (d := 161) rfl (by kernel_rfl) hg, ?_⟩
                have h166 : A.tmps[166]?.getD undef = .int .i64 (ownedF m a.x.owner).length := he 30 (by kernel_rfl)
                have h172 : A.tmps[172]?.getD undef = .int .i64 ((ownedF m2 a.x.owner).length + 1) := he 36 (by kernel_rfl)
                go_simp
                exact ⟨rfl, Below.refl _ _⟩
              · injection ho with ho; subst ho
                have hg : A.tmps[155]?.getD undef = .bool true := he 19 (by kernel_rfl)
                refine .inl ⟨wanted_yes (d := 155) rfl (by kernel_rfl) hg, ?_⟩
                have h161 : A.tmps[161]?.getD undef = .bool false := he 25 (by kernel_rfl)
                have h173 : A.tmps[173]?.getD undef = .bool false := he 37 (by kernel_rfl)
                go_simp
                exact ⟨rfl, Below.refl _ _⟩
              · injection ho with ho; subst ho
                have hg : A.tmps[144]?.getD undef = .bool false := he 8 (by kernel_rfl)
                refine .inl ⟨wanted_yes (d := 144) rfl (by kernel_rfl) hg, ?_⟩
                have h155 : A.tmps[155]?.getD undef = .bool true := he 19 (by kernel_rfl)
                have h174 : A.tmps[174]?.getD undef = .bool false := he 38 (by kernel_rfl)
                go_simp
                exact ⟨rfl, Below.refl _ _⟩
            · intro xs W hW hV
              have e144 : xs 8 = .bool false := hV 8 (by simp)
              have e175 : xs 39 = .bool false := hV 39 (by simp)
              simp only [List.length_cons, List.length_nil, Nat.zero_add, Nat.reduceAdd, List.drop_succ_cons, List.drop_zero, putL, Act.put, List.setIfInBounds_toArray, List.set_cons_zero, List.set_cons_succ, e144, e175]
              clear hV e144 e175
              have HAW4 := Lib.hid (HAW3.out.grown hW)
              have HI3 := Lib.hid (HI2.out.below hW)
              clear hW
              go_wp2_with fail
              refine Met.intro ?_
              go_step
              exact ⟨⟨rfl, rfl, by simp only [List.mem_cons, List.not_mem_nil, or_false, forall_eq_or_imp, forall_eq]; exact ⟨rfl, rfl, rfl, rfl, rfl, rfl, rfl, rfl, rfl, rfl⟩⟩, HAW4.out, HI3.out⟩
          case rest3 =>
            rintro ⟨T, D⟩ W ⟨hF, hW, hI⟩
            obtain ⟨hsz, hdf, hat⟩ := hF
            simp only [List.mem_cons, List.not_mem_nil, or_false, forall_eq_or_imp, forall_eq] at hsz hdf hat
            obtain ⟨q0, q1, q2, q3, q4, q5, q6, q7, q8, q9⟩ := hat
            subst hdf
            have hsp := spread T 230 hsz
            simp only [List.range, List.range.loop, List.map_cons, List.map_nil, q0, q1, q2, q3, q4, q5, q6, q7, q8, q9] at hsp
            rw [hsp]
            clear hsp hsz q0 q1 q2 q3 q4 q5 q6 q7 q8 q9
            have HAW4 := Lib.hid hW
            have HI4 := Lib.hid hI
            clear hW hI HAW3 HAW2 HI1 HI2 HNO HYES HA0
            go_wp2_with fail
            refine wp_loop_ghost_k (fun n A W => ∃ j, j ≤ (listF m2 a.x.loc).length ∧ n = (listF m2 a.x.loc).length - j ∧ Fr 230 [(0, .slice ps start.length cs), (1, .slice (some ⟨g, o, none⟩) l.length cl), (5, .pointer (some ⟨g5, 0, none⟩)), (7, .int .i64 (i : Nat)), (8, .pointer (some ⟨g8, 0, none⟩)), (9, .pointer (some ⟨g9, 0, none⟩)), (10, .int .i64 f), (13, .slice r131 (listF m a.x.loc).length d131), (14, .slice r135 (listF m2 a.x.loc).length d135), (15, .int .i64 ((j : Nat) + 1))] A ∧ AW w g5 g8 g9 a.x p c m p' c' m2 W ∧ Its W r135 (listF m2 a.x.loc)) (listF m2 a.x.loc).length ?_ ?_
            · exact ⟨0, by omega, by omega, ⟨rfl, rfl, by simp only [List.mem_cons, List.not_mem_nil, or_false, forall_eq_or_imp, forall_eq]; exact ⟨rfl, rfl, rfl, rfl, rfl, rfl, rfl, rfl, rfl, rfl⟩⟩, HAW4.out, HI4.out⟩
            · rintro n ⟨T, D⟩ W ⟨j, hj, rfl, hF, hW, hI⟩ J2 K2 hJ2 hK2
              obtain ⟨hsz, hdf, hat⟩ := hF
              simp only [List.mem_cons, List.not_mem_nil, or_false, forall_eq_or_imp, forall_eq] at hsz hdf hat
              obtain ⟨q0, q1, q2, q3, q4, q5, q6, q7, q8, q9⟩ := hat
              subst hdf
              have hsp := spread T 230 hsz
              simp only [List.range, List.range.loop, List.map_cons, List.map_nil, q0, q1, q2, q3, q4, q5, q6, q7, q8, q9] at hsp
              rw [hsp]
              clear hsp hsz q0 q1 q2 q3 q4 q5 q6 q7 q8 q9
              have HAW5 := Lib.hid hW
              have HI5 := Lib.hid hI
              clear hW hI HAW4 HI4
              by_cases hjl : j + 1 < (listF m2 a.x.loc).length
              · have hp := List.getElem?_eq_getElem (by omega : j < (listF m2 a.x.loc).length)
                have hq := List.getElem?_eq_getElem hjl
                have hmp := list_mem HO2.out (List.getElem_mem (by omega : j < (listF m2 a.x.loc).length))
                have hmq := list_mem HO2.out (List.getElem_mem hjl)
                have hrise := List.pairwise_iff_getElem.1 (list_rise HO2.out a.x.loc) j (j + 1) (by omega) hjl (by omega)
                generalize (listF m2 a.x.loc)[j]'(by omega) = y at hp hmp hrise
                generalize (listF m2 a.x.loc)[j + 1]'hjl = z at hq hmq hrise
                obtain ⟨gb, ob, er, _, hcy⟩ := HI5.out.there hp
                subst er
                have HCY : Hid (∀ W', Below W.heap.size W W' → W'.cell? ⟨gb, ob + j * 13 + 1, none⟩ = some (.complex .f64 (fw y.a) (fw y.b))) := Lib.hid (fun W' hb => by
                  obtain ⟨g', o', e', _, hc⟩ := (HI5.out.below hb).there hp
                  injection e' with e'; injection e' with e1 e2; subst e1 e2
                  exact hc.2.1)
                have HCZ : Hid (∀ W', Below W.heap.size W W' → W'.cell? ⟨gb, ob + (j + 1) * 13 + 1, none⟩ = some (.complex .f64 (fw z.a) (fw z.b))) := Lib.hid (fun W' hb => by
                  obtain ⟨g', o', e', _, hc⟩ := (HI5.out.below hb).there hq
                  injection e' with e'; injection e' with e1 e2; subst e1 e2
                  exact hc.2.1)
                have HMY := Lib.hid hmp
                have HMZ := Lib.hid hmq
                have HRI := Lib.hid hrise
                have j1' : (j : Int) + 1 < (((listF m2 a.x.loc).length : Nat) : Int) := by omega
                have j2' : (j : Int) < (((listF m2 a.x.loc).length : Nat) : Int) := by omega
                have j3' : (0 : Int) ≤ (j : Int) := by omega
                have j4' : ((j : Int) + 1).toNat = j + 1 := by omega
                have j5' : (0 : Int) ≤ (j : Int) + 1 := by omega
                have HJL := Lib.hid hjl
                clear hp hq hmp hmq hrise hcy hjl hj
                go_upto_region 28 with (fail)
                obtain ⟨Wa, hWa⟩ : ∃ Wa, Wa = W := ⟨_, rfl⟩
                rw [← hWa] at HAW5 HI5 HCY HCZ ⊢
                clear hWa
                refine wp_flowG [183, 184, 185, 186, 187, 188, 189, 190, 191, 192, 193, 194, 195, 196, 197, 16] [eqV (.slice (some ⟨gb, ob, none⟩) (listF m2 a.x.loc).length d135), eqV (.int .i64 ((j : Nat) + 1)), eqV (.int .i64 (j : Nat)), eqV (.pointer (some ⟨gb, ob + j * 13, none⟩)), eqV (.pointer (some ⟨gb, ob + j * 13 + 1, none⟩)), eqV (.complex .f64 (fw y.a) (fw y.b)), eqV (.int .i64 y.a), eqV (.slice (some ⟨gb, ob, none⟩) (listF m2 a.x.loc).length d135), eqV (.int .i64 ((j : Nat) + 1)), eqV (.int .i64 (j : Nat)), eqV (.pointer (some ⟨gb, ob + j * 13, none⟩)), eqV (.pointer (some ⟨gb, ob + j * 13 + 1, none⟩)), eqV (.complex .f64 (fw y.a) (fw y.b)), eqV (.int .i64 y.b), eqV (.agg #[.int .i64 y.a, .int .i64 y.b]), boxP Wa.heap.size] (by kernel_rfl) (by kernel_rfl) (by kernel_rfl) (by kernel_rfl) (by rfl)
                  (by simp only [List.mem_cons, List.not_mem_nil, or_false, forall_eq_or_imp, forall_eq]; refine ⟨?_, ?_, ?_, ?_, ?_, ?_, ?_, ?_, ?_, ?_, ?_, ?_, ?_, ?_, ?_, ?_⟩ <;> (first | exact eqV_mono _ | exact memE_mono _ _ | exact memW_mono _ | exact listW_mono _ | exact boxP_mono _)) ?_ ?_
                · intro i o hi ho A W hW hk he
                  simp only [List.length_cons, List.length_nil, Nat.zero_add, Nat.reduceAdd] at hi
                  obtain rfl | rfl | rfl | rfl | rfl | rfl | rfl | rfl | rfl | rfl | rfl | rfl | rfl | rfl | rfl | rfl : i = 0 ∨ i = 1 ∨ i = 2 ∨ i = 3 ∨ i = 4 ∨ i = 5 ∨ i = 6 ∨ i = 7 ∨ i = 8 ∨ i = 9 ∨ i = 10 ∨ i = 11 ∨ i = 12 ∨ i = 13 ∨ i = 14 ∨ i = 15 := by omega
                  · injection ho with ho; subst ho
                    refine .inl ⟨wanted_free rfl, ?_⟩
                    have h14 : A.tmps[14]?.getD undef = .slice (some ⟨gb, ob, none⟩) (listF m2 a.x.loc).length d135 := hk 14 (by rfl)
                    go_simp
                    exact ⟨rfl, Below.refl _ _⟩
                  · injection ho with ho; subst ho
                    refine .inl ⟨wanted_free rfl, ?_⟩
                    have h15 : A.tmps[15]?.getD undef = .int .i64 ((j : Nat) + 1) := hk 15 (by rfl)
                    go_simp
                    exact ⟨rfl, Below.refl _ _⟩
                  · injection ho with ho; subst ho
                    refine .inl ⟨wanted_free rfl, ?_⟩
                    have h184 : A.tmps[184]?.getD undef = .int .i64 ((j : Nat) + 1) := he 1 (by kernel_rfl)
                    have hwr := IntWalk.i64_in (j : Int) (by omega)
                    go_simp
                    exact ⟨rfl, Below.refl _ _⟩
                  · injection ho with ho; subst ho
                    refine .inl ⟨wanted_free rfl, ?_⟩
                    have h183 : A.tmps[183]?.getD undef = .slice (some ⟨gb, ob, none⟩) (listF m2 a.x.loc).length d135 := he 0 (by kernel_rfl)
                    have h185 : A.tmps[185]?.getD undef = .int .i64 (j : Nat) := he 2 (by kernel_rfl)
                    go_simp
                    exact ⟨rfl, Below.refl _ _⟩
                  · injection ho with ho; subst ho
                    refine .inl ⟨wanted_free rfl, ?_⟩
                    have h186 : A.tmps[186]?.getD undef = .pointer (some ⟨gb, ob + j * 13, none⟩) := he 3 (by kernel_rfl)
                    go_simp
                    exact ⟨rfl, Below.refl _ _⟩
                  · injection ho with ho; subst ho
                    refine .inl ⟨wanted_free rfl, ?_⟩
                    have h187 : A.tmps[187]?.getD undef = .pointer (some ⟨gb, ob + j * 13 + 1, none⟩) := he 4 (by kernel_rfl)
                    have c0 := HCY.out W hW
                    go_simp
                    exact ⟨rfl, Below.refl _ _⟩
                  · injection ho with ho; subst ho
                    refine .inl ⟨wanted_free rfl, ?_⟩
                    have h188 : A.tmps[188]?.getD undef = .complex .f64 (fw y.a) (fw y.b) := he 5 (by kernel_rfl)
                    go_simp
                    refine Calls.mono (Spn.from_any (sp_of HMY.out) W) ?_
                    rintro e' w' ⟨rfl, rfl⟩
                    exact ⟨_, rfl, rfl, Below.refl _ _⟩
                  · injection ho with ho; subst ho
                    refine .inl ⟨wanted_free rfl, ?_⟩
                    have h14 : A.tmps[14]?.getD undef = .slice (some ⟨gb, ob, none⟩) (listF m2 a.x.loc).length d135 := hk 14 (by rfl)
                    go_simp
                    exact ⟨rfl, Below.refl _ _⟩
                  · injection ho with ho; subst ho
                    refine .inl ⟨wanted_free rfl, ?_⟩
                    have h15 : A.tmps[15]?.getD undef = .int .i64 ((j : Nat) + 1) := hk 15 (by rfl)
                    go_simp
                    exact ⟨rfl, Below.refl _ _⟩
                  · injection ho with ho; subst ho
                    refine .inl ⟨wanted_free rfl, ?_⟩
                    have h191 : A.tmps[191]?.getD undef = .int .i64 ((j : Nat) + 1) := he 8 (by kernel_rfl)
                    have hwr := IntWalk.i64_in (j : Int) (by omega)
                    go_simp
                    exact ⟨rfl, Below.refl _ _⟩
                  · injection ho with ho; subst ho
                    refine .inl ⟨wanted_free rfl, ?_⟩
                    have h190 : A.tmps[190]?.getD undef = .slice (some ⟨gb, ob, none⟩) (listF m2 a.x.loc).length d135 := he 7 (by kernel_rfl)
                    have h192 : A.tmps[192]?.getD undef = .int .i64 (j : Nat) := he 9 (by kernel_rfl)
                    go_simp
                    exact ⟨rfl, Below.refl _ _⟩
                  · injection ho with ho; subst ho
                    refine .inl ⟨wanted_free rfl, ?_⟩
                    have h193 : A.tmps[193]?.getD undef = .pointer (some ⟨gb, ob + j * 13, none⟩) := he 10 (by kernel_rfl)
                    go_simp
                    exact ⟨rfl, Below.refl _ _⟩
                  · injection ho with ho; subst ho
                    refine .inl ⟨wanted_free rfl, ?_⟩
                    have h194 : A.tmps[194]?.getD undef = .pointer (some ⟨gb, ob + j * 13 + 1, none⟩) := he 11 (by kernel_rfl)
                    have c0 := HCY.out W hW
                    go_simp
                    exact ⟨rfl, Below.refl _ _⟩
                  · injection ho with ho; subst ho
                    refine .inl ⟨wanted_free rfl, ?_⟩
                    have h195 : A.tmps[195]?.getD undef = .complex .f64 (fw y.a) (fw y.b) := he 12 (by kernel_rfl)
                    go_simp
                    refine Calls.mono (Spn.to_any (sp_of HMY.out) W) ?_
                    rintro e' w' ⟨rfl, rfl⟩
                    exact ⟨_, rfl, rfl, Below.refl _ _⟩
                  · injection ho with ho; subst ho
                    refine .inl ⟨wanted_free rfl, ?_⟩
                    have h189 : A.tmps[189]?.getD undef = .int .i64 y.a := he 6 (by kernel_rfl)
                    have h196 : A.tmps[196]?.getD undef = .int .i64 y.b := he 13 (by kernel_rfl)
                    go_simp
                    exact ⟨rfl, Below.refl _ _⟩
                  · injection ho with ho; subst ho
                    refine .inl ⟨wanted_free rfl, ?_⟩
                    go_simp
                    exact ⟨⟨_, Sits.new _ _ _, hW.size, rfl⟩, (Below.refl _ _).alloc (Nat.le_refl _) _⟩
                · intro xs W hW hV
                  have e197 : xs 14 = .agg #[.int .i64 y.a, .int .i64 y.b] := hV 14 (by simp)
                  obtain ⟨g16, S16, B16, e16⟩ : boxP Wa.heap.size (xs 15) W := hV 15 (by simp)
                  simp only [List.length_cons, List.length_nil, Nat.zero_add, Nat.reduceAdd, List.drop_succ_cons, List.drop_zero, putL, Act.put, List.setIfInBounds_toArray, List.set_cons_zero, List.set_cons_succ, e197, e16]
                  clear hV e197 e16
                  have S16z := Lib.hid (show Sits (W.setRow g16 #[.int .i64 y.a, .int .i64 y.b]) g16 44 #[.int .i64 y.a, .int .i64 y.b] from setRow_heap W _ _ _ _ _ S16)
                  have HBa := Lib.hid (row_low hW B16 #[.int .i64 y.a, .int .i64 y.b])
                  refine wpList_store_row rfl 44 _ _ rfl g16 #[.int .i64 y.a, .int .i64 y.b] rfl rfl 44 _ S16 pairSize rfl (pair_one _ _) ?_
                  generalize W.setRow g16 #[.int .i64 y.a, .int .i64 y.b] = Wb at S16z HBa ⊢
                  clear hW S16 B16
                  go_upto_region 29 with (fail)
                  refine wp_flowG [198, 199, 200, 201, 202, 203, 204, 205, 206, 207, 208, 209, 210, 17] [eqV (.slice (some ⟨gb, ob, none⟩) (listF m2 a.x.loc).length d135), eqV (.int .i64 ((j : Nat) + 1)), eqV (.pointer (some ⟨gb, ob + (j + 1) * 13, none⟩)), eqV (.pointer (some ⟨gb, ob + (j + 1) * 13 + 1, none⟩)), eqV (.complex .f64 (fw z.a) (fw z.b)), eqV (.int .i64 z.a), eqV (.slice (some ⟨gb, ob, none⟩) (listF m2 a.x.loc).length d135), eqV (.int .i64 ((j : Nat) + 1)), eqV (.pointer (some ⟨gb, ob + (j + 1) * 13, none⟩)), eqV (.pointer (some ⟨gb, ob + (j + 1) * 13 + 1, none⟩)), eqV (.complex .f64 (fw z.a) (fw z.b)), eqV (.int .i64 z.b), eqV (.agg #[.int .i64 z.a, .int .i64 z.b]), boxP Wb.heap.size] (by kernel_rfl) (by kernel_rfl) (by kernel_rfl) (by kernel_rfl) (by rfl)
                    (by simp only [List.mem_cons, List.not_mem_nil, or_false, forall_eq_or_imp, forall_eq]; refine ⟨?_, ?_, ?_, ?_, ?_, ?_, ?_, ?_, ?_, ?_, ?_, ?_, ?_, ?_⟩ <;> (first | exact eqV_mono _ | exact memE_mono _ _ | exact memW_mono _ | exact listW_mono _ | exact boxP_mono _)) ?_ ?_
                  · intro i o hi ho A W hW hk he
                    simp only [List.length_cons, List.length_nil, Nat.zero_add, Nat.reduceAdd] at hi
                    obtain rfl | rfl | rfl | rfl | rfl | rfl | rfl | rfl | rfl | rfl | rfl | rfl | rfl | rfl : i = 0 ∨ i = 1 ∨ i = 2 ∨ i = 3 ∨ i = 4 ∨ i = 5 ∨ i = 6 ∨ i = 7 ∨ i = 8 ∨ i = 9 ∨ i = 10 ∨ i = 11 ∨ i = 12 ∨ i = 13 := by omega
                    · injection ho with ho; subst ho
                      refine .inl ⟨wanted_free rfl, ?_⟩
                      have h14 : A.tmps[14]?.getD undef = .slice (some ⟨gb, ob, none⟩) (listF m2 a.x.loc).length d135 := hk 14 (by rfl)
                      go_simp
                      exact ⟨rfl, Below.refl _ _⟩
                    · injection ho with ho; subst ho
                      refine .inl ⟨wanted_free rfl, ?_⟩
                      have h15 : A.tmps[15]?.getD undef = .int .i64 ((j : Nat) + 1) := hk 15 (by rfl)
                      go_simp
                      exact ⟨rfl, Below.refl _ _⟩
                    · injection ho with ho; subst ho
                      refine .inl ⟨wanted_free rfl, ?_⟩
                      have h198 : A.tmps[198]?.getD undef = .slice (some ⟨gb, ob, none⟩) (listF m2 a.x.loc).length d135 := he 0 (by kernel_rfl)
                      have h199 : A.tmps[199]?.getD undef = .int .i64 ((j : Nat) + 1) := he 1 (by kernel_rfl)
                      go_simp
                      exact ⟨rfl, Below.refl _ _⟩
                    · injection ho with ho; subst ho
                      refine .inl ⟨wanted_free rfl, ?_⟩
                      have h200 : A.tmps[200]?.getD undef = .pointer (some ⟨gb, ob + (j + 1) * 13, none⟩) := he 2 (by kernel_rfl)
                      go_simp
                      exact ⟨rfl, Below.refl _ _⟩
                    · injection ho with ho; subst ho
                      refine .inl ⟨wanted_free rfl, ?_⟩
                      have h201 : A.tmps[201]?.getD undef = .pointer (some ⟨gb, ob + (j + 1) * 13 + 1, none⟩) := he 3 (by kernel_rfl)
                      have c0 := HCZ.out W (HBa.out.trans (hW.mono HBa.out.size))
                      go_simp
                      exact ⟨rfl, Below.refl _ _⟩
                    · injection ho with ho; subst ho
                      refine .inl ⟨wanted_free rfl, ?_⟩
                      have h202 : A.tmps[202]?.getD undef = .complex .f64 (fw z.a) (fw z.b) := he 4 (by kernel_rfl)
                      go_simp
                      refine Calls.mono (Spn.from_any (sp_of HMZ.out) W) ?_
                      rintro e' w' ⟨rfl, rfl⟩
                      exact ⟨_, rfl, rfl, Below.refl _ _⟩
                    · injection ho with ho; subst ho
                      refine .inl ⟨wanted_free rfl, ?_⟩
                      have h14 : A.tmps[14]?.getD undef = .slice (some ⟨gb, ob, none⟩) (listF m2 a.x.loc).length d135 := hk 14 (by rfl)
                      go_simp
                      exact ⟨rfl, Below.refl _ _⟩
                    · injection ho with ho; subst ho
                      refine .inl ⟨wanted_free rfl, ?_⟩
                      have h15 : A.tmps[15]?.getD undef = .int .i64 ((j : Nat) + 1) := hk 15 (by rfl)
                      go_simp
                      exact ⟨rfl, Below.refl _ _⟩
                    · injection ho with ho; subst ho
                      refine .inl ⟨wanted_free rfl, ?_⟩
                      have h204 : A.tmps[204]?.getD undef = .slice (some ⟨gb, ob, none⟩) (listF m2 a.x.loc).length d135 := he 6 (by kernel_rfl)
                      have h205 : A.tmps[205]?.getD undef = .int .i64 ((j : Nat) + 1) := he 7 (by kernel_rfl)
                      go_simp
                      exact ⟨rfl, Below.refl _ _⟩
                    · injection ho with ho; subst ho
                      refine .inl ⟨wanted_free rfl, ?_⟩
                      have h206 : A.tmps[206]?.getD undef = .pointer (some ⟨gb, ob + (j + 1) * 13, none⟩) := he 8 (by kernel_rfl)
                      go_simp
                      exact ⟨rfl, Below.refl _ _⟩
                    · injection ho with ho; subst ho
                      refine .inl ⟨wanted_free rfl, ?_⟩
                      have h207 : A.tmps[207]?.getD undef = .pointer (some ⟨gb, ob + (j + 1) * 13 + 1, none⟩) := he 9 (by kernel_rfl)
                      have c0 := HCZ.out W (HBa.out.trans (hW.mono HBa.out.size))
                      go_simp
                      exact ⟨rfl, Below.refl _ _⟩
                    · injection ho with ho; subst ho
                      refine .inl ⟨wanted_free rfl, ?_⟩
                      have h208 : A.tmps[208]?.getD undef = .complex .f64 (fw z.a) (fw z.b) := he 10 (by kernel_rfl)
                      go_simp
                      refine Calls.mono (Spn.to_any (sp_of HMZ.out) W) ?_
                      rintro e' w' ⟨rfl, rfl⟩
                      exact ⟨_, rfl, rfl, Below.refl _ _⟩
                    · injection ho with ho; subst ho
                      refine .inl ⟨wanted_free rfl, ?_⟩
                      have h203 : A.tmps[203]?.getD undef = .int .i64 z.a := he 5 (by kernel_rfl)
                      have h209 : A.tmps[209]?.getD undef = .int .i64 z.b := he 11 (by kernel_rfl)
                      go_simp
                      exact ⟨rfl, Below.refl _ _⟩
                    · injection ho with ho; subst ho
                      refine .inl ⟨wanted_free rfl, ?_⟩
                      go_simp
                      exact ⟨⟨_, Sits.new _ _ _, hW.size, rfl⟩, (Below.refl _ _).alloc (Nat.le_refl _) _⟩
                  · intro xs W hW hV
                    have e210 : xs 12 = .agg #[.int .i64 z.a, .int .i64 z.b] := hV 12 (by simp)
                    obtain ⟨g17, S17, B17, e17⟩ : boxP Wb.heap.size (xs 13) W := hV 13 (by simp)
                    simp only [List.length_cons, List.length_nil, Nat.zero_add, Nat.reduceAdd, List.drop_succ_cons, List.drop_zero, putL, Act.put, List.setIfInBounds_toArray, List.set_cons_zero, List.set_cons_succ, e210, e17]
                    clear hV e210 e17
                    have S17z := Lib.hid (show Sits (W.setRow g17 #[.int .i64 z.a, .int .i64 z.b]) g17 44 #[.int .i64 z.a, .int .i64 z.b] from setRow_heap W _ _ _ _ _ S17)
                    have HBb := Lib.hid (row_low hW B17 #[.int .i64 z.a, .int .i64 z.b])
                    refine wpList_store_row rfl 44 _ _ rfl g17 #[.int .i64 z.a, .int .i64 z.b] rfl rfl 44 _ S17 pairSize rfl (pair_one _ _) ?_
                    generalize W.setRow g17 #[.int .i64 z.a, .int .i64 z.b] = Wc at S17z HBb ⊢
                    clear hW S17 B17
                    have S16c := Lib.hid (S16z.out.below HBb.out S16z.out.lt)
                    have HBc := Lib.hid (HBa.out.trans (HBb.out.mono HBa.out.size))
                    clear S16z HBa HBb
                    have d0 : Wc.cell? ⟨g16, 0, none⟩ = some (.int .i64 y.a) := S16c.out.cell 0
                    have d1 : Wc.cell? ⟨g16, 1, none⟩ = some (.int .i64 y.b) := S16c.out.cell 1
                    have d2 : Wc.cell? ⟨g17, 0, none⟩ = some (.int .i64 z.a) := S17z.out.cell 0
                    have d3 : Wc.cell? ⟨g17, 1, none⟩ = some (.int .i64 z.b) := S17z.out.cell 1
                    have d4 := S16c.out.lt
                    have d5 := S17z.out.lt
                    have HAP : Hid (Spn.apartF y.a y.b z.a z.b = true) := Lib.hid (by have := HRI.out; unfold Spn.apartF; simp; omega)
                    have e1 : ¬ (z.a < y.b) := by have := HRI.out.1; omega
                    have e2 : ¬ (z.b ≤ z.a) := by have := HRI.out.2; have := may_le HMZ.out; have := may_le HMY.out; omega
                    have HCA := Lib.hid (Spn.rapart_any HMY.out HMZ.out Wc)
                    rw [HAP.out] at HCA
                    go_wp2_with fail
                    refine HCA.out.mono ?_
                    rintro e Wd ⟨rfl, hb⟩
                    have S16d := Lib.hid (S16c.out.below hb S16c.out.lt)
                    have S17d := Lib.hid (S17z.out.below hb S17z.out.lt)
                    have HBd := Lib.hid (HBc.out.trans (hb.mono HBc.out.size))
                    clear hb d0 d1 d2 d3 d4 d5 HCA S16c S17z HBc
                    have d0 : Wd.cell? ⟨g16, 0, none⟩ = some (.int .i64 y.a) := S16d.out.cell 0
                    have d1 : Wd.cell? ⟨g16, 1, none⟩ = some (.int .i64 y.b) := S16d.out.cell 1
                    have d2 : Wd.cell? ⟨g17, 0, none⟩ = some (.int .i64 z.a) := S17d.out.cell 0
                    have d3 : Wd.cell? ⟨g17, 1, none⟩ = some (.int .i64 z.b) := S17d.out.cell 1
                    have d4 := S16d.out.lt
                    have d5 := S17d.out.lt
                    have hwr := IntWalk.i64_in ((j : Int) + 1 + 1) (by omega)
                    go_wp2_with fail
                    refine Handed.intro ((listF m2 a.x.loc).length - (j + 1)) (by have := HJL.out; omega) ?_
                    refine hJ2 _ _ _ ?_
                    exact ⟨j + 1, by have := HJL.out; omega, rfl, ⟨rfl, rfl, by simp only [List.mem_cons, List.not_mem_nil, or_false, forall_eq_or_imp, forall_eq]; exact ⟨rfl, rfl, rfl, rfl, rfl, rfl, rfl, rfl, rfl, rfl⟩⟩, HAW5.out.grown HBd.out, HI5.out.below HBd.out⟩
              · have j1' : ¬ ((j : Int) + 1 < (((listF m2 a.x.loc).length : Nat) : Int)) := by omega
                clear hjl hj
                go_wp2_with fail
                refine Handed.intro (l.length - (i + 1)) (by have := HLT.out; omega) ?_
                refine hJ _ _ _ ?_
                exact ⟨i + 1, m2, p', c', by have := HLT.out; omega, rfl, ⟨rfl, rfl, by simp only [List.mem_cons, List.not_mem_nil, or_false, forall_eq_or_imp, forall_eq]; exact ⟨rfl, rfl, rfl, rfl⟩⟩, HAW5.out.back, HO2.out⟩
    · obtain rfl : i = l.length := by omega
      clear hlt hi
      go_wp2_with fail
      refine (wakes_any _).mono ?_
      rintro e w3 ⟨rfl, hb⟩
      have HB := Lib.hid (HW.out.low.trans (hb.mono HW.out.low.size))
      clear hb
      go_wp2_with fail
      go_ret
      exact ⟨rfl, HB.out⟩
end Go.Proofs.Ytokkcbhmmhmfmaa.Mmr
