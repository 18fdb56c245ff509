/- Layer 12 (cap): the walk of CapFull. -/
import Derived.Test.YtokkcbhmmhmfmaaCapC
namespace Go.Proofs.Ytokkcbhmmhmfmaa.Cap
open Go.RowKit Go.Proofs.Ytokkcbhmmhmfmaa.Mem Go.Proofs.Ytokkcbhmmhmfmaa.Flow Go.Proofs.Ytokkcbhmmhmfmaa.Mmr

def keepB (x : It) : Bool := !x.res || decide (0 ≤ x.owner)
theorem kept_next {l : List It} {i : Nat} {x : It} (h : l[i]? = some x) : keptF (l.take (i + 1)) = keptF (l.take i) ++ if keepB x = true then [x] else [] := by
  rw [List.take_add_one, h]
  show keptF (l.take i ++ [x]) = _
  unfold keptF
  rw [List.filter_append]
  congr 1
  by_cases hk : keepB x = true
  · rw [if_pos hk]; exact List.filter_cons_of_pos (p := fun x : It => !x.res || decide (0 ≤ x.owner)) hk
  · rw [if_neg hk]; exact List.filter_cons_of_neg (p := fun x : It => !x.res || decide (0 ≤ x.owner)) hk
theorem kept_yes {l : List It} {i : Nat} {x : It} (h : l[i]? = some x) (hk : keepB x = true) : keptF (l.take (i + 1)) = keptF (l.take i) ++ [x] := by rw [kept_next h, if_pos hk]
theorem kept_no {l : List It} {i : Nat} {x : It} (h : l[i]? = some x) (hk : keepB x = false) : keptF (l.take (i + 1)) = keptF (l.take i) := by rw [kept_next h, if_neg (by rw [hk]; decide), List.append_nil]
theorem kept_len (l : List It) : (keptF l).length ≤ l.length := List.length_filter_le _ _
theorem kept_at {l : List It} {i : Nat} {x : It} (h : l[i]? = some x) (hk : keepB x = true) : (keptF l)[(keptF (l.take i)).length]? = some x := by
  have e : l = l.take i ++ x :: l.drop (i + 1) := split_at h
  have e2 : keptF l = keptF (l.take i) ++ x :: keptF (l.drop (i + 1)) := by
    conv => lhs; rw [e]
    unfold keptF
    rw [List.filter_append]
    congr 1
    exact List.filter_cons_of_pos (p := fun x : It => !x.res || decide (0 ≤ x.owner)) hk
  rw [e2, List.getElem?_append_right (Nat.le_refl _), Nat.sub_self]; rfl
theorem contig_at {l : List It} (h : contig 0 l) {i : Nat} {x : It} (hx : l[i]? = some x) : x.a = endOf 0 (l.take i) := by
  have e := split_at hx
  rw [e] at h
  exact (contig_append.1 h).2.1
structure CfAt (w : World) (x : It) (g7 : Nat) (p : Nat → Option Addr) (c : Nat → Nat) (m : Mm) (g10 : Nat) (p2 : Nat → Option Addr) (c2 : Nat → Nat) (mc : Mm) (W : World) : Prop where
  at5 : Sits W w.heap.size 47 (rtCells x)
  at7 : Sits W g7 31 (memCells p c m)
  at10 : Sits W g10 31 (memCells p2 c2 mc)
  hold : Hold W p c m
  hold2 : Hold W p2 c2 mc
  low : Below w.heap.size w W
theorem CfAt.grown {w W W' : World} {x : It} {g7 g10 : Nat} {p p2 : Nat → Option Addr} {c c2 : Nat → Nat} {m mc : Mm} (h : CfAt w x g7 p c m g10 p2 c2 mc W) (hb : Below W.heap.size W W') : CfAt w x g7 p c m g10 p2 c2 mc W' :=
  ⟨h.at5.below hb h.at5.lt, h.at7.below hb h.at7.lt, h.at10.below hb h.at10.lt, h.hold.below hb, h.hold2.below hb, h.low.trans (hb.mono h.low.size)⟩
set_option maxRecDepth 100000 in
set_option maxHeartbeats 16000000 in
theorem capfull_law (start : List Int) (l : List It) (x : It) (ps pl : Option Addr) (cs cl : Nat) (w : World) (hN : Nums w ps start) (hL : Rts w pl l) (hsl : start.length ≤ 9223372036854775807) (hll : l.length ≤ 9223372036854775807) (hX : Rng x) :
    Calls Try.prog 6 #[.slice ps start.length cs, .slice pl l.length cl, rtV x] w (Made (.returned (.bool true)) w) := by
  have H0 : Hid (Sits (w.alloc (.cells (rtCells x) 47)) w.heap.size 47 (rtCells x) ∧ Below w.heap.size w (w.alloc (.cells (rtCells x) 47))) := Lib.hid ⟨Sits.new _ _ _, one_low _ _⟩
  by_cases h1 : 150 < l.length
  · have k0 : (150 : Int) < (l.length : Int) := by omega
    have i1 : (start.length : Int) ≤ 9223372036854775807 := by omega
    have i2 : (l.length : Int) ≤ 9223372036854775807 := by omega
    clear hsl hll h1 hN hL hX
    go_enter Try.func6, Try.ntmps6
    go_upto_region 1 with (fail)
    generalize w.alloc (.cells (rtCells x) 47) = w0 at H0 ⊢
    go_wp2_with fail
    refine (wakes12_any _).mono ?_
    rintro e w1 ⟨rfl, hb⟩
    go_wp2_with fail
    go_ret
    exact ⟨rfl, H0.out.2.trans (hb.mono H0.out.2.size)⟩
  by_cases h2 : start.length < 1
  · have k0 : ¬ (150 : Int) < (l.length : Int) := by omega
    have k1 : (start.length : Int) < 1 := by omega
    have i1 : (start.length : Int) ≤ 9223372036854775807 := by omega
    have i2 : (l.length : Int) ≤ 9223372036854775807 := by omega
    clear hsl hll h1 h2 hN hL hX
    go_enter Try.func6, Try.ntmps6
    go_upto_region 1 with (fail)
    generalize w.alloc (.cells (rtCells x) 47) = w0 at H0 ⊢
    go_wp2_with fail
    refine (wakes12_any _).mono ?_
    rintro e w1 ⟨rfl, hb⟩
    go_wp2_with fail
    go_ret
    exact ⟨rfl, H0.out.2.trans (hb.mono H0.out.2.size)⟩
  by_cases h3 : 4 < start.length
  · have k0 : ¬ (150 : Int) < (l.length : Int) := by omega
    have k1 : ¬ (start.length : Int) < 1 := by omega
    have k2 : (4 : Int) < (start.length : Int) := by omega
    have i1 : (start.length : Int) ≤ 9223372036854775807 := by omega
    have i2 : (l.length : Int) ≤ 9223372036854775807 := by omega
    clear hsl hll h1 h2 h3 hN hL hX
    go_enter Try.func6, Try.ntmps6
    go_upto_region 1 with (fail)
    generalize w.alloc (.cells (rtCells x) 47) = w0 at H0 ⊢
    go_wp2_with fail
    refine (wakes12_any _).mono ?_
    rintro e w1 ⟨rfl, hb⟩
    go_wp2_with fail
    go_ret
    exact ⟨rfl, H0.out.2.trans (hb.mono H0.out.2.size)⟩
  have k0 : ¬ (150 : Int) < (l.length : Int) := by omega
  have k1 : ¬ (start.length : Int) < 1 := by omega
  have k2 : ¬ (4 : Int) < (start.length : Int) := by omega
  have HC := Lib.hid (made_any start l ps pl cs cl _ (hN.below H0.out.2) (hL.below H0.out.2) (by omega) (by omega) (by omega))
  have HSL := Lib.hid (show start.length ≤ 4 by omega)
  have HX := Lib.hid hX
  clear hsl hll h1 h2 h3 hN hL hX
  go_enter Try.func6, Try.ntmps6
  go_upto_region 1 with (fail)
  generalize w.alloc (.cells (rtCells x) 47) = w0 at H0 HC ⊢
  go_wp2_with fail
  refine HC.out.mono ?_
  rintro e w1 ⟨p, c, m, q, d, dm, rfl, hh, hd, hR, hn, hb⟩
  have HO := Lib.hid hR.ok
  have HMN := Lib.hid hn
  have HB1 : Hid (Below w0.heap.size w0 ((w1.alloc (.cells (memCells p c m) 31)).alloc (.cells (dmCells q d dm) 37))) := Lib.hid (hb.trans ((two_low _ _ _).mono hb.size))
  have S7 : Hid (Sits ((w1.alloc (.cells (memCells p c m) 31)).alloc (.cells (dmCells q d dm) 37)) w1.heap.size 31 (memCells p c m)) := Lib.hid ((Sits.new _ _ _).alloc _)
  have HH := Lib.hid (hh.below (two_low w1 (.cells (memCells p c m) 31) (.cells (dmCells q d dm) 37)))
  clear hh hd hR hn hb HC
  go_upto_region 4 with (fail)
  generalize (w1.alloc (.cells (memCells p c m) 31)).alloc (.cells (dmCells q d dm) 37) = w2 at HB1 S7 HH ⊢
  generalize w1.heap.size = g7 at S7 ⊢
  have HCC : Hid (Calls Try.prog 32 #[memV p c m] w2 (GivesE ((capP m).1, (capP m).2) w2)) := Lib.hid (capped_any p c m HO.out w2 HH.out)
  have HFU := Lib.hid (fun h => cap_full HO.out h)
  have HOC := Lib.hid (ok_cap HO.out)
  have HE1 : Hid ((capP m).2 ≠ 0 → (capP m).2 = 4) := Lib.hid (by unfold capP; cases upP m m.n <;> simp)
  generalize (capP m).1 = mc at HCC HFU HOC
  generalize (capP m).2 = e1 at HCC HFU HE1
  have lb := (S7.out).lt
  have b0 : w2.cell? ⟨g7, 0, none⟩ = some (.slice (p 0) (m.row 0).length (c 0)) := (S7.out).cell 0
  have b1 : w2.cell? ⟨g7, 1, none⟩ = some (.slice (p 1) (m.row 1).length (c 1)) := (S7.out).cell 1
  have b2 : w2.cell? ⟨g7, 2, none⟩ = some (.slice (p 2) (m.row 2).length (c 2)) := (S7.out).cell 2
  have b3 : w2.cell? ⟨g7, 3, none⟩ = some (.slice (p 3) (m.row 3).length (c 3)) := (S7.out).cell 3
  have b4 : w2.cell? ⟨g7, 4, none⟩ = some (.int .i64 (m.n : Nat)) := (S7.out).cell 4
  go_wp2_with fail
  refine HCC.out.mono ?_
  rintro e w3 ⟨p2, c2, rfl, hh, hb⟩
  dsimp only at hh ⊢
  have HT : Hid (CfAt w x g7 p c m w3.heap.size p2 c2 mc (w3.alloc (.cells (memCells p2 c2 mc) 31))) := Lib.hid (by
    have HB3 : Below w2.heap.size w2 (w3.alloc (.cells (memCells p2 c2 mc) 31)) := hb.trans ((one_low _ _).mono hb.size)
    have HB4 := HB1.out.trans (HB3.mono HB1.out.size)
    exact ⟨H0.out.1.below HB4 H0.out.1.lt, S7.out.below HB3 S7.out.lt, Sits.new _ _ _, HH.out.below HB3, hh.below (one_low _ _), H0.out.2.trans (HB4.mono H0.out.2.size)⟩)
  clear hh hb HCC HB1 S7 HH H0
  clear lb b0 b1 b2 b3 b4
  go_upto_region 7 with (fail)
  generalize w3.alloc (.cells (memCells p2 c2 mc) 31) = w4 at HT ⊢
  generalize w3.heap.size = g10 at HT ⊢
  by_cases he : e1 = 0
  rotate_left
  · obtain rfl : e1 = 4 := HE1.out he
    clear he
    go_wp2_with fail
    refine (wakes12_any _).mono ?_
    rintro e w5 ⟨rfl, hb⟩
    have HB5 := Lib.hid (HT.out.low.trans (hb.mono HT.out.low.size))
    clear hb
    go_wp2_with fail
    go_ret
    exact ⟨rfl, HB5.out⟩
  subst he
  have HF := Lib.hid (HFU.out rfl)
  clear HFU HE1
  go_wp2_with fail
  refine wp_loop_ghost_k (fun n A W => ∃ k : Nat, k ≤ start.length ∧ n = start.length - k ∧ Fr 207 [(0, .slice ps start.length cs), (5, .pointer (some ⟨w.heap.size, 0, none⟩)), (7, .pointer (some ⟨g7, 0, none⟩)), (10, .pointer (some ⟨g10, 0, none⟩)), (12, .int .i64 (k : Nat))] A ∧ CfAt w x g7 p c m g10 p2 c2 mc W) start.length ?_ ?_
  · exact ⟨0, by omega, by omega, ⟨rfl, rfl, by simp only [List.mem_cons, List.not_mem_nil, or_false, forall_eq_or_imp, forall_eq]; exact ⟨rfl, rfl, rfl, rfl, rfl⟩⟩, HT.out⟩
  · rintro n ⟨T, D⟩ wr ⟨k, hk, rfl, hF, hW⟩ J K hJ hK
    obtain ⟨hsz, hdf, hat⟩ := hF
    simp only [List.mem_cons, List.not_mem_nil, or_false, forall_eq_or_imp, forall_eq] at hsz hdf hat
    obtain ⟨q0, q1, q2, q3, q4⟩ := hat
    subst hdf
    have hsp := spread T 207 hsz
    simp only [List.range, List.range.loop, List.map_cons, List.map_nil, q0, q1, q2, q3, q4] at hsp
    rw [hsp]
    clear hsp hsz q0 q1 q2 q3 q4
    have HW := Lib.hid hW
    clear hW HT
    by_cases hlt : k < start.length
    · have j1 : (k : Int) < (start.length : Int) := by omega
      have HK := Lib.hid (show k < start.length ∧ k < m.n from ⟨hlt, by have := HMN.out; omega⟩)
      clear hlt hk
      obtain ⟨hkf, ini, z, hrow, hini, hzr, hct⟩ := HF.out.done k HK.out.2 HK.out.2
      have HLC : Hid (listF mc (k : Int) = mc.row k) := Lib.hid (by unfold listF; rw [if_pos (has_iff.2 ⟨by omega, by have := HF.out.n; have := HK.out.2; omega⟩)]; simp)
      have HLM : Hid (listF m (k : Int) = m.row k) := Lib.hid (by unfold listF; rw [if_pos (has_iff.2 ⟨by omega, by have := HK.out.2; omega⟩)]; simp)
      have HMY := Lib.hid (HOC.out.may k)
      have HMM := Lib.hid (HO.out.may k)
      have HLE := Lib.hid (HOC.out.few k)
      have HME := Lib.hid (HO.out.few k)
      have HKF := Lib.hid hkf
      have HCT : Hid (contig 0 (mc.row k)) := Lib.hid (by rw [hrow]; exact hct)
      have HLAST : Hid (∃ t, (mc.row k).length = t + 1 ∧ 0 < t ∧ (mc.row k)[t]? = some z) := Lib.hid ⟨ini.length, by rw [hrow]; simp, by cases ini with | nil => exact absurd rfl hini | cons a b => simp, by rw [hrow]; simp⟩
      have HZR := Lib.hid hzr
      clear hkf hrow hini hzr hct
      have lb := (HW.out.at10).lt
      have b0 : wr.cell? ⟨g10, 0, none⟩ = some (.slice (p2 0) (mc.row 0).length (c2 0)) := (HW.out.at10).cell 0
      have b1 : wr.cell? ⟨g10, 1, none⟩ = some (.slice (p2 1) (mc.row 1).length (c2 1)) := (HW.out.at10).cell 1
      have b2 : wr.cell? ⟨g10, 2, none⟩ = some (.slice (p2 2) (mc.row 2).length (c2 2)) := (HW.out.at10).cell 2
      have b3 : wr.cell? ⟨g10, 3, none⟩ = some (.slice (p2 3) (mc.row 3).length (c2 3)) := (HW.out.at10).cell 3
      have b4 : wr.cell? ⟨g10, 4, none⟩ = some (.int .i64 (mc.n : Nat)) := (HW.out.at10).cell 4
      go_wp2_with fail
      refine (list_any p2 c2 mc HOC.out (k : Int) wr HW.out.hold2).mono ?_
      rintro e w5 ⟨r1, d1, rfl, hr, hb⟩
      rw [HLC.out] at hr ⊢
      have HR1 := Lib.hid hr
      have HW1 := Lib.hid (HW.out.grown hb)
      clear hr hb HW
      clear lb b0 b1 b2 b3 b4
      generalize mc.row k = L at HMY HLE HKF HCT HLAST HR1 ⊢
      generalize m.row k = M at HMM HME HKF HLM
      obtain ⟨t, ht, ht0, htz⟩ := HLAST.out
      have HT1 := Lib.hid (show L.length = t + 1 ∧ 0 < t ∧ L[t]? = some z from ⟨ht, ht0, htz⟩)
      have i1 : (L.length : Int) ≤ 40 := by have := HLE.out; omega
      obtain ⟨g, o, hp⟩ : ∃ g o, r1 = some ⟨g, o, none⟩ := by
        obtain ⟨g, o, hp, _, _⟩ := HR1.out.at (List.getElem?_eq_getElem (by omega : 0 < L.length))
        exact ⟨g, o, hp⟩
      subst hp
      clear ht ht0 htz HLAST
      go_wp2_with fail
      refine wp_loop_ghost_k (fun n A W => ∃ (i : Nat) (rk : Option Addr) (dk : Nat), i ≤ L.length ∧ n = L.length - i ∧ Fr 207 [(0, .slice ps start.length cs), (5, .pointer (some ⟨w.heap.size, 0, none⟩)), (7, .pointer (some ⟨g7, 0, none⟩)), (10, .pointer (some ⟨g10, 0, none⟩)), (12, .int .i64 (k : Nat)), (13, .slice rk (keptF (L.take i)).length dk), (14, .slice (some ⟨g, o, none⟩) L.length d1), (15, .int .i64 (endOf 0 (L.take i))), (16, .int .i64 (i : Nat))] A ∧ Mmr.OwnAt w5 rk dk (keptF (L.take i)) W) L.length ?_ ?_
      · exact ⟨0, none, 0, by omega, by omega, ⟨rfl, rfl, by simp only [List.mem_cons, List.not_mem_nil, or_false, forall_eq_or_imp, forall_eq]; exact ⟨rfl, rfl, rfl, rfl, rfl, rfl, rfl, rfl, rfl⟩⟩, ⟨Cut.empty _ _ _ _, Below.refl _ _⟩⟩
      · rintro n ⟨T, D⟩ W ⟨i, rk, dk, hi, rfl, hF, hOw⟩ J2 K2 hJ2 hK2
        obtain ⟨hsz, hdf, hat⟩ := hF
        simp only [List.mem_cons, List.not_mem_nil, or_false, forall_eq_or_imp, forall_eq] at hsz hdf hat
        obtain ⟨q0, q1, q2, q3, q4, q5, q6, q7, q8⟩ := hat
        subst hdf
        have hsp := spread T 207 hsz
        simp only [List.range, List.range.loop, List.map_cons, List.map_nil, q0, q1, q2, q3, q4, q5, q6, q7, q8] at hsp
        rw [hsp]
        clear hsp hsz q0 q1 q2 q3 q4 q5 q6 q7 q8
        have HOw := Lib.hid hOw
        clear hOw
        have HKL := Lib.hid (show (keptF (L.take i)).length ≤ 40 by have := kept_len (L.take i); rw [List.length_take] at this; have := HLE.out; omega)
        by_cases hil : i < L.length
        · have hx : L[i]? = some L[i] := List.getElem?_eq_getElem hil
          have HMX := Lib.hid (HMY.out _ (List.getElem_mem hil))
          have HXI := Lib.hid hx
          obtain ⟨g', o', e', lg, hc⟩ := (HR1.out.below HOw.out.low).there hx
          injection e' with e'; injection e' with e1 e2; subst e1 e2
          generalize L[i] = y at hx hc HXI HMX
          obtain ⟨a0, a1, a2, a3, a4, a5, a6, a7, a8, a9, a10, a11, a12⟩ := hc
          have HCA := Lib.hid (contig_at HCT.out HXI.out)
          have HEN := Lib.hid (end_next HXI.out)
          have q1 : (i : Int) < (L.length : Int) := by omega
          have q0 : (0 : Int) ≤ (i : Int) := by omega
          have HIL := Lib.hid hil
          rw [← HCA.out]
          have qe : (y.a != y.a) = false := by simp
          clear hx hil hi
          go_wp2_with fail
          refine (Spn.from_any (sp_of HMX.out) W).mono ?_
          rintro e w6 ⟨rfl, rfl⟩
          go_wp2_with fail
          refine (Spn.to_any (sp_of HMX.out) W).mono ?_
          rintro e w6 ⟨rfl, rfl⟩
          go_upto_region 21 with (fail)
          cases hkb : keepB y
          · have HK1 := Lib.hid (kept_no HXI.out hkb)
            have hre : y.res = true := by unfold keepB at hkb; cases h : y.res <;> simp [h] at hkb ⊢
            have how : ¬ (0 : Int) ≤ y.owner := by unfold keepB at hkb; rw [hre] at hkb; simpa using hkb
            rw [hre] at a11
            clear hkb hre
            go_wp2_with fail
            refine Handed.intro (L.length - (i + 1)) (by have := HIL.out; omega) ?_
            refine hJ2 _ _ _ ?_
            exact ⟨i + 1, rk, dk, by have := HIL.out; omega, rfl, ⟨rfl, rfl, by simp only [List.mem_cons, List.not_mem_nil, or_false, forall_eq_or_imp, forall_eq]; exact ⟨rfl, rfl, rfl, rfl, rfl, congrArg (fun l => Value.slice rk (List.length l) dk) HK1.out.symm, rfl, congrArg (Value.int .i64) HEN.out.symm, rfl⟩⟩, by rw [HK1.out]; exact HOw.out⟩
          · have HK1 := Lib.hid (kept_yes HXI.out hkb)
            refine wp_cut (fun A W2 => Fr 207 [(0, .slice ps start.length cs), (5, .pointer (some ⟨w.heap.size, 0, none⟩)), (7, .pointer (some ⟨g7, 0, none⟩)), (10, .pointer (some ⟨g10, 0, none⟩)), (12, .int .i64 (k : Nat)), (13, .slice rk (keptF (L.take i)).length dk), (14, .slice (some ⟨g, o, none⟩) L.length d1), (15, .int .i64 y.b), (16, .int .i64 (i : Nat)), (101, .bool true)] A ∧ W2 = W) ?rest ?first
            case first =>
              intro J K hJ hK
              cases hre : y.res
              · rw [hre] at a11
                clear hre hkb
                go_wp2_with fail
                refine Met.intro ?_
                go_step
                exact ⟨⟨rfl, rfl, by simp only [List.mem_cons, List.not_mem_nil, or_false, forall_eq_or_imp, forall_eq]; exact ⟨rfl, rfl, rfl, rfl, rfl, rfl, rfl, rfl, rfl, rfl⟩⟩, rfl⟩
              · have how : (0 : Int) ≤ y.owner := by unfold keepB at hkb; rw [hre] at hkb; simpa using hkb
                rw [hre] at a11
                clear hre hkb
                go_wp2_with fail
                refine Met.intro ?_
                go_step
                exact ⟨⟨rfl, rfl, by simp only [List.mem_cons, List.not_mem_nil, or_false, forall_eq_or_imp, forall_eq]; exact ⟨rfl, rfl, rfl, rfl, rfl, rfl, rfl, rfl, rfl, rfl⟩⟩, rfl⟩
            case rest =>
              rintro ⟨T, D⟩ W2 ⟨hF, hE⟩
              obtain ⟨hsz, hdf, hat⟩ := hF
              simp only [List.mem_cons, List.not_mem_nil, or_false, forall_eq_or_imp, forall_eq] at hsz hdf hat
              obtain ⟨q0, q1, q2, q3, q4, q5, q6, q7, q8, q9⟩ := hat
              subst hdf
              have hsp := spread T 207 hsz
              simp only [List.range, List.range.loop, List.map_cons, List.map_nil, q0, q1, q2, q3, q4, q5, q6, q7, q8, q9] at hsp
              rw [hsp]
              clear hsp hsz q0 q1 q2 q3 q4 q5 q6 q7 q8 q9
              rw [hE]
              clear hE hkb
              have HI1 := Lib.hid (its_new (Sits.new W 57 (itCells y)))
              have HCu := Lib.hid (HOw.out.cut.below (one_low W (.cells (itCells y) 57)))
              go_wp2_with (at_builtin; refine wpList_append_cut rowIt rfl _ _ rfl (B := w5.heap.size) (r := rk) (n := (keptF (L.take i)).length) (d := dk) (xs := cellsOf itL (keptF (L.take i))) rfl HCu.out (by have := HOw.out.low.size; simp; omega) (some ⟨W.heap.size, 0, none⟩) 1 1 (cellsOf itL [y]) rfl rfl HI1.out.lay (its_one [y]) (by unfold maxLen; have := HKL.out; omega) (by have := HKL.out; omega) ?_)
              intro r' d' w' hb hc
              have HLN := Lib.hid (show (keptF (L.take (i + 1))).length = (keptF (L.take i)).length + 1 by rw [HK1.out]; simp)
              have HO3 : Hid (Mmr.OwnAt w5 r' d' (keptF (L.take (i + 1))) w') := Lib.hid (by
                refine ⟨?_, ((HOw.out.low.alloc HOw.out.low.size _).trans (hb.mono (Nat.le_refl _)))⟩
                rw [HLN.out, HK1.out, cells_append]; exact hc)
              clear hb hc a0 a1 a2 a3 a4 a5 a6 a7 a8 a9 a10 a11 a12
              go_wp2_with fail
              refine Handed.intro (L.length - (i + 1)) (by have := HIL.out; omega) ?_
              refine hJ2 _ _ _ ?_
              exact ⟨i + 1, r', d', by have := HIL.out; omega, rfl, ⟨rfl, rfl, by simp only [List.mem_cons, List.not_mem_nil, or_false, forall_eq_or_imp, forall_eq]; exact ⟨rfl, rfl, rfl, rfl, rfl, congrArg (fun n => Value.slice r' n d') HLN.out.symm, rfl, congrArg (Value.int .i64) HEN.out.symm, rfl⟩⟩, HO3.out⟩
        · obtain rfl : i = L.length := by omega
          rw [List.take_length] at HOw HKL ⊢
          have q1 : ¬ ((L.length : Int) < (L.length : Int)) := by omega
          have HWk := Lib.hid (HW1.out.grown HOw.out.low)
          have HRk : Hid (Its W rk (keptF L)) := Lib.hid HOw.out.cut.lay.its
          have HR1b := Lib.hid (HR1.out.below HOw.out.low)
          have kk : ((keptF L).length : Int) ≤ 40 := by have := HKL.out; omega
          have HLL : Hid (keptF M = keptF L) := Lib.hid HKF.out.symm
          clear hil hi HOw HW1 HR1
          have lb := (HWk.out.at7).lt
          have b0 : W.cell? ⟨g7, 0, none⟩ = some (.slice (p 0) (m.row 0).length (c 0)) := (HWk.out.at7).cell 0
          have b1 : W.cell? ⟨g7, 1, none⟩ = some (.slice (p 1) (m.row 1).length (c 1)) := (HWk.out.at7).cell 1
          have b2 : W.cell? ⟨g7, 2, none⟩ = some (.slice (p 2) (m.row 2).length (c 2)) := (HWk.out.at7).cell 2
          have b3 : W.cell? ⟨g7, 3, none⟩ = some (.slice (p 3) (m.row 3).length (c 3)) := (HWk.out.at7).cell 3
          have b4 : W.cell? ⟨g7, 4, none⟩ = some (.int .i64 (m.n : Nat)) := (HWk.out.at7).cell 4
          go_wp2_with fail
          refine (list_any p c m HO.out (k : Int) W HWk.out.hold).mono ?_
          rintro e w6 ⟨r2, d2, rfl, hr, hb⟩
          rw [HLM.out] at hr ⊢
          have HR2 := Lib.hid hr
          have HW6 := Lib.hid (HWk.out.grown hb)
          have HRk6 := Lib.hid (HRk.out.below hb)
          have HR16 := Lib.hid (HR1b.out.below hb)
          clear hr hb HWk HRk HR1b
          clear lb b0 b1 b2 b3 b4
          have i2 : (M.length : Int) ≤ 40 := by have := HME.out; omega
          go_wp2_with fail
          refine wp_loop_ghost_k (fun n A W => ∃ j : Nat, j ≤ M.length ∧ n = M.length - j ∧ Fr 207 [(0, .slice ps start.length cs), (5, .pointer (some ⟨w.heap.size, 0, none⟩)), (7, .pointer (some ⟨g7, 0, none⟩)), (10, .pointer (some ⟨g10, 0, none⟩)), (12, .int .i64 (k : Nat)), (13, .slice rk (keptF L).length dk), (14, .slice (some ⟨g, o, none⟩) L.length d1), (17, .int .i64 ((keptF (M.take j)).length : Nat)), (18, .slice r2 M.length d2), (19, .int .i64 (j : Nat))] A ∧ Below w6.heap.size w6 W) M.length ?_ ?_
          · exact ⟨0, by omega, by omega, ⟨rfl, rfl, by simp only [List.mem_cons, List.not_mem_nil, or_false, forall_eq_or_imp, forall_eq]; exact ⟨rfl, rfl, rfl, rfl, rfl, rfl, rfl, rfl, rfl, rfl⟩⟩, Below.refl _ _⟩
          · rintro n ⟨T, D⟩ W7 ⟨j, hj, rfl, hF, hB⟩ J3 K3 hJ3 hK3
            obtain ⟨hsz, hdf, hat⟩ := hF
            simp only [List.mem_cons, List.not_mem_nil, or_false, forall_eq_or_imp, forall_eq] at hsz hdf hat
            obtain ⟨q0, q1, q2, q3, q4, q5, q6, q7, q8, q9⟩ := hat
            subst hdf
            have hsp := spread T 207 hsz
            simp only [List.range, List.range.loop, List.map_cons, List.map_nil, q0, q1, q2, q3, q4, q5, q6, q7, q8, q9] at hsp
            rw [hsp]
            clear hsp hsz q0 q1 q2 q3 q4 q5 q6 q7 q8 q9
            have HB := Lib.hid hB
            clear hB
            have HUL := Lib.hid (show (keptF (M.take j)).length ≤ 40 by have := kept_len (M.take j); rw [List.length_take] at this; have := HME.out; omega)
            by_cases hjl : j < M.length
            · have hx : M[j]? = some M[j] := List.getElem?_eq_getElem hjl
              have HMX := Lib.hid (HMM.out _ (List.getElem_mem hjl))
              have HXI := Lib.hid hx
              obtain ⟨g2, o2, rfl, lg, hc⟩ := (HR2.out.below HB.out).there hx
              generalize M[j] = y at hx hc HXI HMX
              obtain ⟨a0, a1, a2, a3, a4, a5, a6, a7, a8, a9, a10, a11, a12⟩ := hc
              have q1 : (j : Int) < (M.length : Int) := by omega
              have q0 : (0 : Int) ≤ (j : Int) := by omega
              have HJL := Lib.hid hjl
              clear hx hjl hj
              cases hkb : keepB y
              · have HK1 := Lib.hid (kept_no HXI.out hkb)
                have hre : y.res = true := by unfold keepB at hkb; cases h : y.res <;> simp [h] at hkb ⊢
                have how : y.owner < (0 : Int) := by unfold keepB at hkb; rw [hre] at hkb; simpa using hkb
                rw [hre] at a11
                clear hkb hre
                go_wp2_with fail
                refine Handed.intro (M.length - (j + 1)) (by have := HJL.out; omega) ?_
                refine hJ3 _ _ _ ?_
                exact ⟨j + 1, by have := HJL.out; omega, rfl, ⟨rfl, rfl, by simp only [List.mem_cons, List.not_mem_nil, or_false, forall_eq_or_imp, forall_eq]; exact ⟨rfl, rfl, rfl, rfl, rfl, rfl, rfl, congrArg (fun l => Value.int .i64 ((List.length l : Nat) : Int)) HK1.out.symm, rfl, rfl⟩⟩, HB.out⟩
              · have HK1 := Lib.hid (kept_yes HXI.out hkb)
                have HAT := Lib.hid (kept_at HXI.out hkb)
                rw [HLL.out] at HAT
                obtain ⟨g3, o3, rfl, lg3, hc3⟩ := (HRk6.out.below HB.out).there HAT.out
                have HC3 : Hid (∀ W', Below W7.heap.size W7 W' → ItAt W' g3 (o3 + (keptF (M.take j)).length * 13) y) := Lib.hid fun W' hb => itAt_below hc3 hb lg3
                have HC2 : Hid (∀ W', Below W7.heap.size W7 W' → ItAt W' g2 (o2 + j * 13) y) := Lib.hid fun W' hb => itAt_below ⟨a0, a1, a2, a3, a4, a5, a6, a7, a8, a9, a10, a11, a12⟩ hb lg
                have HUL2 : Hid ((keptF (M.take j)).length < (keptF L).length) := Lib.hid (List.getElem?_eq_some_iff.1 HAT.out).1
                clear hc3
                go_upto_region 28 with (fail)
                refine wp_cut (fun A W2 => Fr 207 [(0, .slice ps start.length cs), (5, .pointer (some ⟨w.heap.size, 0, none⟩)), (7, .pointer (some ⟨g7, 0, none⟩)), (10, .pointer (some ⟨g10, 0, none⟩)), (12, .int .i64 (k : Nat)), (13, .slice (some ⟨g3, o3, none⟩) (keptF L).length dk), (14, .slice (some ⟨g, o, none⟩) L.length d1), (17, .int .i64 ((keptF (M.take j)).length : Nat)), (18, .slice (some ⟨g2, o2, none⟩) M.length d2), (19, .int .i64 (j : Nat)), (130, .bool false)] A ∧ W2 = W7) ?rest4 ?first4
                case first4 =>
                  intro J K hJ hK
                  cases hre : y.res
                  · rw [hre] at a11
                    clear hre hkb
                    go_wp2_with fail
                    refine Met.intro ?_
                    go_step
                    exact ⟨⟨rfl, rfl, by simp only [List.mem_cons, List.not_mem_nil, or_false, forall_eq_or_imp, forall_eq]; exact ⟨rfl, rfl, rfl, rfl, rfl, rfl, rfl, rfl, rfl, rfl, rfl⟩⟩, rfl⟩
                  · have how : ¬ y.owner < (0 : Int) := by unfold keepB at hkb; rw [hre] at hkb; simpa using hkb
                    rw [hre] at a11
                    clear hre hkb
                    go_wp2_with fail
                    refine Met.intro ?_
                    go_step
                    exact ⟨⟨rfl, rfl, by simp only [List.mem_cons, List.not_mem_nil, or_false, forall_eq_or_imp, forall_eq]; exact ⟨rfl, rfl, rfl, rfl, rfl, rfl, rfl, rfl, rfl, rfl, rfl⟩⟩, rfl⟩
                case rest4 =>
                  rintro ⟨T, D⟩ W8 ⟨hF, hE⟩
                  obtain ⟨hsz, hdf, hat⟩ := hF
                  simp only [List.mem_cons, List.not_mem_nil, or_false, forall_eq_or_imp, forall_eq] at hsz hdf hat
                  obtain ⟨q0, q1, q2, q3, q4, q5, q6, q7, q8, q9, q10⟩ := hat
                  subst hdf
                  have hsp := spread T 207 hsz
                  simp only [List.range, List.range.loop, List.map_cons, List.map_nil, q0, q1, q2, q3, q4, q5, q6, q7, q8, q9, q10] at hsp
                  rw [hsp]
                  clear hsp hsz q0 q1 q2 q3 q4 q5 q6 q7 q8 q9 q10
                  rw [hE]
                  clear hE hkb a0 a1 a2 a3 a4 a5 a6 a7 a8 a9 a10 a11 a12
                  have HLN := Lib.hid (show (keptF (M.take (j + 1))).length = (keptF (M.take j)).length + 1 by rw [HK1.out]; simp)
                  have u1 : ((keptF (M.take j)).length : Int) < ((keptF L).length : Int) := by have := HUL2.out; omega
                  have u0 : (0 : Int) ≤ ((keptF (M.take j)).length : Int) := by omega
                  have u2 : ¬ ((keptF L).length : Int) ≤ ((keptF (M.take j)).length : Int) := by omega
                  have u40 : ((keptF (M.take j)).length : Int) ≤ 40 := by have := HUL.out; omega
                  go_upto_region 29 with (fail)
                  refine wp_flowG (w := W7) [131, 132, 133, 134, 135, 136, 137, 138, 139, 140, 141, 142, 143, 144] [eqV (.int .i64 ((keptF (M.take j)).length : Nat)), eqV (.slice (some ⟨g3, o3, none⟩) (keptF L).length dk), eqV (.int .i64 ((keptF L).length : Nat)), eqV (.bool false), eqV (.bool false), eqV (.slice (some ⟨g3, o3, none⟩) (keptF L).length dk), eqV (.int .i64 ((keptF (M.take j)).length : Nat)), eqV (.pointer (some ⟨g3, o3 + (keptF (M.take j)).length * 13, none⟩)), eqV (itV y), eqV (.slice (some ⟨g2, o2, none⟩) M.length d2), eqV (.int .i64 (j : Nat)), eqV (.pointer (some ⟨g2, o2 + j * 13, none⟩)), eqV (itV y), eqV (.bool false)] (by kernel_rfl) (by kernel_rfl) (by kernel_rfl) (by kernel_rfl) (by rfl)
                    (by simp only [List.mem_cons, List.not_mem_nil, or_false, forall_eq_or_imp, forall_eq]; refine ⟨?_, ?_, ?_, ?_, ?_, ?_, ?_, ?_, ?_, ?_, ?_, ?_, ?_, ?_⟩ <;> (first | exact eqV_mono _ | exact memE_mono _ _ | exact memW_mono _ | exact listW_mono _ | exact rtsW_mono _ | exact dmE_mono _ _)) ?_ ?_
                  · intro i o hi ho A W hW hk he
                    simp only [List.length_cons, List.length_nil, Nat.zero_add, Nat.reduceAdd] at hi
                    obtain rfl | rfl | rfl | rfl | rfl | rfl | rfl | rfl | rfl | rfl | rfl | rfl | rfl | rfl : i = 0 ∨ i = 1 ∨ i = 2 ∨ i = 3 ∨ i = 4 ∨ i = 5 ∨ i = 6 ∨ i = 7 ∨ i = 8 ∨ i = 9 ∨ i = 10 ∨ i = 11 ∨ i = 12 ∨ i = 13 := by omega
                    · injection ho with ho; subst ho
                      refine .inl ⟨wanted_free rfl, ?_⟩
                      have h17 : A.tmps[17]?.getD undef = .int .i64 ((keptF (M.take j)).length : Nat) := hk 17 (by rfl)
                      go_simp
                      exact ⟨rfl, Below.refl _ _⟩
                    · injection ho with ho; subst ho
                      refine .inl ⟨wanted_free rfl, ?_⟩
                      have h13 : A.tmps[13]?.getD undef = .slice (some ⟨g3, o3, none⟩) (keptF L).length dk := hk 13 (by rfl)
                      go_simp
                      exact ⟨rfl, Below.refl _ _⟩
                    · injection ho with ho; subst ho
                      refine .inl ⟨wanted_free rfl, ?_⟩
                      have h132 : A.tmps[132]?.getD undef = .slice (some ⟨g3, o3, none⟩) (keptF L).length dk := he 1 (by kernel_rfl)
                      go_simp
                      exact ⟨rfl, Below.refl _ _⟩
                    · injection ho with ho; subst ho
                      refine .inl ⟨wanted_free rfl, ?_⟩
                      have h131 : A.tmps[131]?.getD undef = .int .i64 ((keptF (M.take j)).length : Nat) := he 0 (by kernel_rfl)
                      have h133 : A.tmps[133]?.getD undef = .int .i64 ((keptF L).length : Nat) := he 2 (by kernel_rfl)
                      go_simp
                      exact ⟨rfl, Below.refl _ _⟩
                    · injection ho with ho; subst ho
                      refine .inl ⟨wanted_free rfl, ?_⟩
                      have h134 : A.tmps[134]?.getD undef = .bool false := he 3 (by kernel_rfl)
                      go_simp
                      exact ⟨rfl, Below.refl _ _⟩
                    · injection ho with ho; subst ho
                      have hg : A.tmps[135]?.getD undef = .bool false := he 4 (by kernel_rfl)
                      refine .inl ⟨wanted_yes (d := 135) rfl (by kernel_rfl) hg, ?_⟩
                      have h13 : A.tmps[13]?.getD undef = .slice (some ⟨g3, o3, none⟩) (keptF L).length dk := hk 13 (by rfl)
                      go_simp
                      exact ⟨rfl, Below.refl _ _⟩
                    · injection ho with ho; subst ho
                      have hg : A.tmps[135]?.getD undef = .bool false := he 4 (by kernel_rfl)
                      refine .inl ⟨wanted_yes (d := 135) rfl (by kernel_rfl) hg, ?_⟩
                      have h17 : A.tmps[17]?.getD undef = .int .i64 ((keptF (M.take j)).length : Nat) := hk 17 (by rfl)
                      go_simp
                      exact ⟨rfl, Below.refl _ _⟩
                    · injection ho with ho; subst ho
                      have hg : A.tmps[135]?.getD undef = .bool false := he 4 (by kernel_rfl)
                      refine .inl ⟨wanted_yes (d := 135) rfl (by kernel_rfl) hg, ?_⟩
                      have h136 : A.tmps[136]?.getD undef = .slice (some ⟨g3, o3, none⟩) (keptF L).length dk := he 5 (by kernel_rfl)
                      have h137 : A.tmps[137]?.getD undef = .int .i64 ((keptF (M.take j)).length : Nat) := he 6 (by kernel_rfl)
                      go_simp
                      exact ⟨rfl, Below.refl _ _⟩
                    · injection ho with ho; subst ho
                      have hg : A.tmps[135]?.getD undef = .bool false := he 4 (by kernel_rfl)
                      refine .inl ⟨wanted_yes (d := 135) rfl (by kernel_rfl) hg, ?_⟩
                      have h138 : A.tmps[138]?.getD undef = .pointer (some ⟨g3, o3 + (keptF (M.take j)).length * 13, none⟩) := he 7 (by kernel_rfl)
                      obtain ⟨c0, c1, c2, c3, c4, c5, c6, c7, c8, c9, c10, c11, c12⟩ := HC3.out W hW
                      go_simp
                      exact ⟨rfl, Below.refl _ _⟩
                    · injection ho with ho; subst ho
                      have hg : A.tmps[135]?.getD undef = .bool false := he 4 (by kernel_rfl)
                      refine .inl ⟨wanted_yes (d := 135) rfl (by kernel_rfl) hg, ?_⟩
                      have h18 : A.tmps[18]?.getD undef = .slice (some ⟨g2, o2, none⟩) M.length d2 := hk 18 (by rfl)
                      go_simp
                      exact ⟨rfl, Below.refl _ _⟩
                    · injection ho with ho; subst ho
                      have hg : A.tmps[135]?.getD undef = .bool false := he 4 (by kernel_rfl)
                      refine .inl ⟨wanted_yes (d := 135) rfl (by kernel_rfl) hg, ?_⟩
                      have h19 : A.tmps[19]?.getD undef = .int .i64 (j : Nat) := hk 19 (by rfl)
                      go_simp
                      exact ⟨rfl, Below.refl _ _⟩
                    · injection ho with ho; subst ho
                      have hg : A.tmps[135]?.getD undef = .bool false := he 4 (by kernel_rfl)
                      refine .inl ⟨wanted_yes (d := 135) rfl (by kernel_rfl) hg, ?_⟩
                      have h140 : A.tmps[140]?.getD undef = .slice (some ⟨g2, o2, none⟩) M.length d2 := he 9 (by kernel_rfl)
                      have h141 : A.tmps[141]?.getD undef = .int .i64 (j : Nat) := he 10 (by kernel_rfl)
                      go_simp
                      exact ⟨rfl, Below.refl _ _⟩
                    · injection ho with ho; subst ho
                      have hg : A.tmps[135]?.getD undef = .bool false := he 4 (by kernel_rfl)
                      refine .inl ⟨wanted_yes (d := 135) rfl (by kernel_rfl) hg, ?_⟩
                      have h142 : A.tmps[142]?.getD undef = .pointer (some ⟨g2, o2 + j * 13, none⟩) := he 11 (by kernel_rfl)
                      obtain ⟨c0, c1, c2, c3, c4, c5, c6, c7, c8, c9, c10, c11, c12⟩ := HC2.out W hW
                      go_simp
                      exact ⟨rfl, Below.refl _ _⟩
                    · injection ho with ho; subst ho
                      have hg : A.tmps[135]?.getD undef = .bool false := he 4 (by kernel_rfl)
                      refine .inl ⟨wanted_yes (d := 135) rfl (by kernel_rfl) hg, ?_⟩
                      have h139 : A.tmps[139]?.getD undef = itV y := he 8 (by kernel_rfl)
                      have h143 : A.tmps[143]?.getD undef = itV y := he 12 (by kernel_rfl)
                      have hq : (binOp .neq 57 (itV y) (itV y)).run Try.prog W = .ok (.bool false) W := by rw [neq_it y y (fit_may HMX.out) (fit_may HMX.out), same_self]; rfl
                      have hgd : ∀ u v, (eqGuard .neq 57 u v (itV y) (itV y)).run Try.prog W = .ok () W := fun u v => guard_it .neq u v y y W
                      generalize itV y = X at h139 h143 hq hgd
                      go_simp
                      exact ⟨rfl, Below.refl _ _⟩
                  · intro xs W hW hV
                    have e135 : xs 4 = .bool false := hV 4 (by simp)
                    have e144 : xs 13 = .bool false := hV 13 (by simp)
                    simp only [List.length_cons, List.length_nil, Nat.zero_add, Nat.reduceAdd, List.drop_succ_cons, List.drop_zero, putL, Act.put, List.setIfInBounds_toArray, List.set_cons_zero, List.set_cons_succ, e135, e144]
                    clear hV e135 e144
                    have HB9 := Lib.hid (HB.out.trans (hW.mono HB.out.size))
                    clear hW
                    have hwu := IntWalk.i64_in (((keptF (M.take j)).length : Int) + 1) (by omega)
                    go_wp2_with fail
                    refine Handed.intro (M.length - (j + 1)) (by have := HJL.out; omega) ?_
                    refine hJ3 _ _ _ ?_
                    exact ⟨j + 1, by have := HJL.out; omega, rfl, ⟨rfl, rfl, by simp only [List.mem_cons, List.not_mem_nil, or_false, forall_eq_or_imp, forall_eq]; exact ⟨rfl, rfl, rfl, rfl, rfl, rfl, rfl, congrArg (Value.int .i64) (by rw [HLN.out]; rfl), rfl, rfl⟩⟩, HB9.out⟩
            · obtain rfl : j = M.length := by omega
              have q1 : ¬ ((M.length : Int) < (M.length : Int)) := by omega
              rw [List.take_length]
              rw [HLL.out]
              obtain ⟨e1, e2, e3⟩ := HT1.out
              obtain ⟨g', o', e', lg, hc⟩ := (HR16.out.below HB.out).there e3
              injection e' with e'; injection e' with e4 e5; subst e4 e5
              obtain ⟨a0, a1, a2, a3, a4, a5, a6, a7, a8, a9, a10, a11, a12⟩ := hc
              rw [HZR.out] at a11
              have l2 : ¬ ((L.length : Int) < 2) := by omega
              have hsub : (L.length : Int) - 1 = (t : Nat) := by omega
              have t1 : (t : Int) < (L.length : Int) := by omega
              have t0 : (0 : Int) ≤ (t : Int) := by omega
              have t40 : (t : Int) ≤ 40 := by omega
              have qq : (((keptF L).length : Int) != ((keptF L).length : Int)) = false := by simp
              clear e1 e2 e3 hjl hj
              go_wp2_with fail
              refine Handed.intro (start.length - (k + 1)) (by have := HK.out; omega) ?_
              refine hJ _ _ _ ?_
              exact ⟨k + 1, by have := HK.out; omega, rfl, ⟨rfl, rfl, by simp only [List.mem_cons, List.not_mem_nil, or_false, forall_eq_or_imp, forall_eq]; exact ⟨rfl, rfl, rfl, rfl, rfl⟩⟩, HW6.out.grown HB.out⟩
    · obtain rfl : k = start.length := by omega
      have j1 : ¬ ((start.length : Int) < (start.length : Int)) := by omega
      clear hlt hk
      have HCI := Lib.hid (item_any x HX.out wr)
      have HYF := Lib.hid (law_fit x)
      have HYL : Hid ((lawI x).loc = x.loc) := Lib.hid (by unfold lawI; split <;> rfl)
      generalize lawI x = y at HCI HYF HYL
      have lr := (HW.out.at5).lt
      have r0 : wr.cell? ⟨w.heap.size, 0, none⟩ = some (.int .i64 x.loc) := (HW.out.at5).cell 0
      have r1 : wr.cell? ⟨w.heap.size, 1, none⟩ = some (.int .i64 x.a) := (HW.out.at5).cell 1
      have r2 : wr.cell? ⟨w.heap.size, 2, none⟩ = some (.int .i64 x.b) := (HW.out.at5).cell 2
      have r3 : wr.cell? ⟨w.heap.size, 3, none⟩ = some (.int .u64 x.n) := (HW.out.at5).cell 3
      have r4 : wr.cell? ⟨w.heap.size, 4, none⟩ = some (.int .i64 (x.v 0)) := (HW.out.at5).cell 4
      have r5 : wr.cell? ⟨w.heap.size, 5, none⟩ = some (.int .i64 (x.v 1)) := (HW.out.at5).cell 5
      have r6 : wr.cell? ⟨w.heap.size, 6, none⟩ = some (.int .i64 (x.v 2)) := (HW.out.at5).cell 6
      have r7 : wr.cell? ⟨w.heap.size, 7, none⟩ = some (.int .i64 (x.v 3)) := (HW.out.at5).cell 7
      have r8 : wr.cell? ⟨w.heap.size, 8, none⟩ = some (.int .i64 (x.v 4)) := (HW.out.at5).cell 8
      have r9 : wr.cell? ⟨w.heap.size, 9, none⟩ = some (.int .i64 (x.v 5)) := (HW.out.at5).cell 9
      have r10 : wr.cell? ⟨w.heap.size, 10, none⟩ = some (.int .i64 (x.v 6)) := (HW.out.at5).cell 10
      have r11 : wr.cell? ⟨w.heap.size, 11, none⟩ = some (.int .i64 (x.v 7)) := (HW.out.at5).cell 11
      have r12 : wr.cell? ⟨w.heap.size, 12, none⟩ = some (.bool x.res) := (HW.out.at5).cell 12
      have r13 : wr.cell? ⟨w.heap.size, 13, none⟩ = some (.int .i64 x.owner) := (HW.out.at5).cell 13
      go_wp2_with fail
      refine HCI.out.mono ?_
      rintro e w5 ⟨rfl, hb⟩
      have HW5 := Lib.hid ((HW.out.grown hb).grown (one_low w5 (.cells (itCells y) 57)))
      have S20 := Lib.hid (Sits.new w5 57 (itCells y))
      clear hb HCI HW
      clear lr r0 r1 r2 r3 r4 r5 r6 r7 r8 r9 r10 r11 r12 r13
      go_upto_region 35 with (fail)
      generalize w5.alloc (.cells (itCells y) 57) = w6 at HW5 S20 ⊢
      generalize w5.heap.size = g20 at S20 ⊢
      have HCA := Lib.hid (add_any p2 c2 mc HOC.out y HYF.out w6 HW5.out.hold2)
      have HAF := Lib.hid (fun h => add_full HF.out (y := y) h)
      obtain ⟨m3, e3, hm3⟩ : ∃ m3 e3, addF mc y = (m3, e3) := ⟨_, _, rfl⟩
      rw [hm3] at HCA HAF
      clear hm3
      have lb := (HW5.out.at10).lt
      have b0 : w6.cell? ⟨g10, 0, none⟩ = some (.slice (p2 0) (mc.row 0).length (c2 0)) := (HW5.out.at10).cell 0
      have b1 : w6.cell? ⟨g10, 1, none⟩ = some (.slice (p2 1) (mc.row 1).length (c2 1)) := (HW5.out.at10).cell 1
      have b2 : w6.cell? ⟨g10, 2, none⟩ = some (.slice (p2 2) (mc.row 2).length (c2 2)) := (HW5.out.at10).cell 2
      have b3 : w6.cell? ⟨g10, 3, none⟩ = some (.slice (p2 3) (mc.row 3).length (c2 3)) := (HW5.out.at10).cell 3
      have b4 : w6.cell? ⟨g10, 4, none⟩ = some (.int .i64 (mc.n : Nat)) := (HW5.out.at10).cell 4
      have ls := (S20.out).lt
      have s0 : w6.cell? ⟨g20, 0, none⟩ = some (.int .i64 y.loc) := (S20.out).cell 0
      have s1 : w6.cell? ⟨g20, 1, none⟩ = some (.complex .f64 (fw y.a) (fw y.b)) := (S20.out).cell 1
      have s2 : w6.cell? ⟨g20, 2, none⟩ = some (.int .u64 y.n) := (S20.out).cell 2
      have s3 : w6.cell? ⟨g20, 3, none⟩ = some (.int .i64 (y.v 0)) := (S20.out).cell 3
      have s4 : w6.cell? ⟨g20, 4, none⟩ = some (.int .i64 (y.v 1)) := (S20.out).cell 4
      have s5 : w6.cell? ⟨g20, 5, none⟩ = some (.int .i64 (y.v 2)) := (S20.out).cell 5
      have s6 : w6.cell? ⟨g20, 6, none⟩ = some (.int .i64 (y.v 3)) := (S20.out).cell 6
      have s7 : w6.cell? ⟨g20, 7, none⟩ = some (.int .i64 (y.v 4)) := (S20.out).cell 7
      have s8 : w6.cell? ⟨g20, 8, none⟩ = some (.int .i64 (y.v 5)) := (S20.out).cell 8
      have s9 : w6.cell? ⟨g20, 9, none⟩ = some (.int .i64 (y.v 6)) := (S20.out).cell 9
      have s10 : w6.cell? ⟨g20, 10, none⟩ = some (.int .i64 (y.v 7)) := (S20.out).cell 10
      have s11 : w6.cell? ⟨g20, 11, none⟩ = some (.bool y.res) := (S20.out).cell 11
      have s12 : w6.cell? ⟨g20, 12, none⟩ = some (.int .i64 y.owner) := (S20.out).cell 12
      go_wp2_with fail
      refine HCA.out.mono ?_
      rintro e w7 ⟨p3, c3, rfl, hh, hb⟩
      dsimp only
      have HW7 := Lib.hid ((HW5.out.grown hb).grown (one_low w7 (.cells (memCells p3 c3 m3) 31)))
      have S20b := Lib.hid (((S20.out.below hb S20.out.lt)).alloc (.cells (memCells p3 c3 m3) 31))
      clear hh hb HCA HW5 S20
      clear lb b0 b1 b2 b3 b4
      clear ls s0 s1 s2 s3 s4 s5 s6 s7 s8 s9 s10 s11 s12
      go_upto_region 36 with (fail)
      generalize w7.alloc (.cells (memCells p3 c3 m3) 31) = w8 at HW7 S20b ⊢
      by_cases he : e3 = 0
      rotate_left
      · have he' : (e3 == 0) = false := by simpa using he
        clear he
        go_wp2_with fail
        refine (wakes12_any _).mono ?_
        rintro e w9 ⟨rfl, hb⟩
        have HB9 := Lib.hid (HW7.out.low.trans (hb.mono HW7.out.low.size))
        clear hb
        go_wp2_with fail
        go_ret
        exact ⟨rfl, HB9.out⟩
      obtain ⟨kk, z, ini, hyl, hkk, hrow, hzy, hmy, hab⟩ := HAF.out he
      subst he
      have HLX : Hid (listF mc x.loc = ini ++ [z]) := Lib.hid (by
        rw [← HYL.out, hyl, ← hrow]
        unfold listF
        rw [if_pos (has_iff.2 ⟨by omega, by have := HF.out.n; omega⟩)]; simp)
      have HMY2 : Hid (MayX y) := Lib.hid hmy
      have HMZ : Hid (MayX z) := Lib.hid (HOC.out.may kk z (by rw [hrow]; simp))
      have hz0 : (FloatKind.f64.format.order (fw y.a) 0 == some .eq && FloatKind.f64.format.order (fw y.b) 0 == some .eq) = false := by
        rw [zero_span HYF.out]; exact decide_eq_false (by omega)
      have HIL : Hid (ini.length ≤ 40) := Lib.hid (by have h := HOC.out.few kk; rw [hrow] at h; simp at h; omega)
      clear hyl hkk hrow hmy hab HAF
      have lb := (HW7.out.at10).lt
      have b0 : w8.cell? ⟨g10, 0, none⟩ = some (.slice (p2 0) (mc.row 0).length (c2 0)) := (HW7.out.at10).cell 0
      have b1 : w8.cell? ⟨g10, 1, none⟩ = some (.slice (p2 1) (mc.row 1).length (c2 1)) := (HW7.out.at10).cell 1
      have b2 : w8.cell? ⟨g10, 2, none⟩ = some (.slice (p2 2) (mc.row 2).length (c2 2)) := (HW7.out.at10).cell 2
      have b3 : w8.cell? ⟨g10, 3, none⟩ = some (.slice (p2 3) (mc.row 3).length (c2 3)) := (HW7.out.at10).cell 3
      have b4 : w8.cell? ⟨g10, 4, none⟩ = some (.int .i64 (mc.n : Nat)) := (HW7.out.at10).cell 4
      have r0 : w8.cell? ⟨w.heap.size, 0, none⟩ = some (.int .i64 x.loc) := HW7.out.at5.cell 0
      have l5 := HW7.out.at5.lt
      go_wp2_with fail
      refine (list_any p2 c2 mc HOC.out x.loc w8 HW7.out.hold2).mono ?_
      rintro e w9 ⟨r, d', rfl, hr, hb⟩
      rw [HLX.out] at hr ⊢
      obtain ⟨g, o, rfl, lg, hc⟩ := hr.there (k := ini.length) (x := z) (by simp)
      rw [show (ini ++ [z]).length = ini.length + 1 by simp]
      generalize ini.length = t at hc HIL ⊢
      have HB9 := Lib.hid (HW7.out.low.trans (hb.mono HW7.out.low.size))
      have S20c := Lib.hid (S20b.out.below hb S20b.out.lt)
      have HCZ : Hid (∀ W', Below w9.heap.size w9 W' → ItAt W' g (o + t * 13) z) := Lib.hid fun W' hb => itAt_below hc hb lg
      clear hr hb hc lg HW7 S20b r0 l5
      clear lb b0 b1 b2 b3 b4
      have t40 : (t : Int) ≤ 40 := by have := HIL.out; omega
      have t0 : (0 : Int) ≤ (t : Int) := by omega
      have t1 : (t : Int) < ((t + 1 : Nat) : Int) := by omega
      have t2 : (t : Int) < (t : Int) + 1 := by omega
      have tp : (0 : Int) < ((t + 1 : Nat) : Int) := by omega
      have ts : ((t + 1 : Nat) : Int) - 1 = (t : Nat) := by omega
      go_upto_region 38 with (fail)
      refine wp_flowG (w := w9) [181, 182, 183, 184, 185, 186, 187, 188, 189, 190, 191, 192, 193, 194, 195, 196, 197, 198, 199, 200, 201, 202, 203, 204] [eqV (.slice (some ⟨g, o, none⟩) (t + 1) d'), eqV (.int .i64 ((t + 1 : Nat) : Int)), eqV (.bool true), eqV (.bool true), eqV (.pointer (some ⟨g20, 1, none⟩)), eqV (.complex .f64 (fw y.a) (fw y.b)), eqV (.int .i64 y.a), eqV (.slice (some ⟨g, o, none⟩) (t + 1) d'), eqV (.slice (some ⟨g, o, none⟩) (t + 1) d'), eqV (.int .i64 ((t + 1 : Nat) : Int)), eqV (.int .i64 (t : Nat)), eqV (.pointer (some ⟨g, o + t * 13, none⟩)), eqV (.pointer (some ⟨g, o + t * 13 + 1, none⟩)), eqV (.complex .f64 (fw z.a) (fw z.b)), eqV (.int .i64 z.b), eqV (.bool true), eqV (.bool true), eqV (.bool true), eqV (.pointer (some ⟨g20, 1, none⟩)), eqV (.complex .f64 (fw y.a) (fw y.b)), eqV (.bool true), eqV (.bool true), eqV (.bool true), eqV (.bool true)] (by kernel_rfl) (by kernel_rfl) (by kernel_rfl) (by kernel_rfl) (by rfl)
        (by simp only [List.mem_cons, List.not_mem_nil, or_false, forall_eq_or_imp, forall_eq]; refine ⟨?_, ?_, ?_, ?_, ?_, ?_, ?_, ?_, ?_, ?_, ?_, ?_, ?_, ?_, ?_, ?_, ?_, ?_, ?_, ?_, ?_, ?_, ?_, ?_⟩ <;> (first | exact eqV_mono _ | exact memE_mono _ _ | exact memW_mono _ | exact listW_mono _ | exact rtsW_mono _ | exact dmE_mono _ _)) ?_ ?_
      · intro i o hi ho A W hW hk he
        simp only [List.length_cons, List.length_nil, Nat.zero_add, Nat.reduceAdd] at hi
        obtain rfl | rfl | rfl | rfl | rfl | rfl | rfl | rfl | rfl | rfl | rfl | rfl | rfl | rfl | rfl | rfl | rfl | rfl | rfl | rfl | rfl | rfl | rfl | rfl : i = 0 ∨ i = 1 ∨ i = 2 ∨ i = 3 ∨ i = 4 ∨ i = 5 ∨ i = 6 ∨ i = 7 ∨ i = 8 ∨ i = 9 ∨ i = 10 ∨ i = 11 ∨ i = 12 ∨ i = 13 ∨ i = 14 ∨ i = 15 ∨ i = 16 ∨ i = 17 ∨ i = 18 ∨ i = 19 ∨ i = 20 ∨ i = 21 ∨ i = 22 ∨ i = 23 := by omega
        · injection ho with ho; subst ho
          refine .inl ⟨wanted_free rfl, ?_⟩
          have h23 : A.tmps[23]?.getD undef = .slice (some ⟨g, o, none⟩) (t + 1) d' := hk 23 (by rfl)
          go_simp
          exact ⟨rfl, Below.refl _ _⟩
        · injection ho with ho; subst ho
          refine .inl ⟨wanted_free rfl, ?_⟩
          have h181 : A.tmps[181]?.getD undef = .slice (some ⟨g, o, none⟩) (t + 1) d' := he 0 (by kernel_rfl)
          go_simp
          exact ⟨rfl, Below.refl _ _⟩
        · injection ho with ho; subst ho
          refine .inl ⟨wanted_free rfl, ?_⟩
          have h182 : A.tmps[182]?.getD undef = .int .i64 ((t + 1 : Nat) : Int) := he 1 (by kernel_rfl)
          go_simp
          exact ⟨rfl, Below.refl _ _⟩
        · injection ho with ho; subst ho
          refine .inl ⟨wanted_free rfl, ?_⟩
          have h183 : A.tmps[183]?.getD undef = .bool true := he 2 (by kernel_rfl)
          go_simp
          exact ⟨rfl, Below.refl _ _⟩
        · injection ho with ho; subst ho
          have hg : A.tmps[184]?.getD undef = .bool true := he 3 (by kernel_rfl)
          refine .inl ⟨wanted_yes (d := 184) rfl (by kernel_rfl) hg, ?_⟩
          have h20 : A.tmps[20]?.getD undef = .pointer (some ⟨g20, 0, none⟩) := hk 20 (by rfl)
          go_simp
          exact ⟨rfl, Below.refl _ _⟩
        · injection ho with ho; subst ho
          have hg : A.tmps[184]?.getD undef = .bool true := he 3 (by kernel_rfl)
          refine .inl ⟨wanted_yes (d := 184) rfl (by kernel_rfl) hg, ?_⟩
          have h185 : A.tmps[185]?.getD undef = .pointer (some ⟨g20, 1, none⟩) := he 4 (by kernel_rfl)
          have c0 := (S20c.out.below hW S20c.out.lt).cell 1
          go_simp
          exact ⟨rfl, Below.refl _ _⟩
        · injection ho with ho; subst ho
          have hg : A.tmps[184]?.getD undef = .bool true := he 3 (by kernel_rfl)
          refine .inl ⟨wanted_yes (d := 184) rfl (by kernel_rfl) hg, ?_⟩
          have h186 : A.tmps[186]?.getD undef = .complex .f64 (fw y.a) (fw y.b) := he 5 (by kernel_rfl)
          go_simp
          refine Calls.mono (Spn.from_any (sp_of HMY2.out) W) ?_
          rintro e' w' ⟨rfl, rfl⟩
          exact ⟨_, rfl, rfl, Below.refl _ _⟩
        · injection ho with ho; subst ho
          have hg : A.tmps[184]?.getD undef = .bool true := he 3 (by kernel_rfl)
          refine .inl ⟨wanted_yes (d := 184) rfl (by kernel_rfl) hg, ?_⟩
          have h23 : A.tmps[23]?.getD undef = .slice (some ⟨g, o, none⟩) (t + 1) d' := hk 23 (by rfl)
          go_simp
          exact ⟨rfl, Below.refl _ _⟩
        · injection ho with ho; subst ho
          have hg : A.tmps[184]?.getD undef = .bool true := he 3 (by kernel_rfl)
          refine .inl ⟨wanted_yes (d := 184) rfl (by kernel_rfl) hg, ?_⟩
          have h23 : A.tmps[23]?.getD undef = .slice (some ⟨g, o, none⟩) (t + 1) d' := hk 23 (by rfl)
          go_simp
          exact ⟨rfl, Below.refl _ _⟩
        · injection ho with ho; subst ho
          have hg : A.tmps[184]?.getD undef = .bool true := he 3 (by kernel_rfl)
          refine .inl ⟨wanted_yes (d := 184) rfl (by kernel_rfl) hg, ?_⟩
          have h189 : A.tmps[189]?.getD undef = .slice (some ⟨g, o, none⟩) (t + 1) d' := he 8 (by kernel_rfl)
          go_simp
          exact ⟨rfl, Below.refl _ _⟩
        · injection ho with ho; subst ho
          have hg : A.tmps[184]?.getD undef = .bool true := he 3 (by kernel_rfl)
          refine .inl ⟨wanted_yes (d := 184) rfl (by kernel_rfl) hg, ?_⟩
          have h190 : A.tmps[190]?.getD undef = .int .i64 ((t + 1 : Nat) : Int) := he 9 (by kernel_rfl)
          have hwr := IntWalk.i64_in (t : Int) (by omega)
          go_simp
          exact ⟨rfl, Below.refl _ _⟩
        · injection ho with ho; subst ho
          have hg : A.tmps[184]?.getD undef = .bool true := he 3 (by kernel_rfl)
          refine .inl ⟨wanted_yes (d := 184) rfl (by kernel_rfl) hg, ?_⟩
          have h188 : A.tmps[188]?.getD undef = .slice (some ⟨g, o, none⟩) (t + 1) d' := he 7 (by kernel_rfl)
          have h191 : A.tmps[191]?.getD undef = .int .i64 (t : Nat) := he 10 (by kernel_rfl)
          go_simp
          exact ⟨rfl, Below.refl _ _⟩
        · injection ho with ho; subst ho
          have hg : A.tmps[184]?.getD undef = .bool true := he 3 (by kernel_rfl)
          refine .inl ⟨wanted_yes (d := 184) rfl (by kernel_rfl) hg, ?_⟩
          have h192 : A.tmps[192]?.getD undef = .pointer (some ⟨g, o + t * 13, none⟩) := he 11 (by kernel_rfl)
          go_simp
          exact ⟨rfl, Below.refl _ _⟩
        · injection ho with ho; subst ho
          have hg : A.tmps[184]?.getD undef = .bool true := he 3 (by kernel_rfl)
          refine .inl ⟨wanted_yes (d := 184) rfl (by kernel_rfl) hg, ?_⟩
          have h193 : A.tmps[193]?.getD undef = .pointer (some ⟨g, o + t * 13 + 1, none⟩) := he 12 (by kernel_rfl)
          obtain ⟨c0, c1, c2, c3, c4, c5, c6, c7, c8, c9, c10, c11, c12⟩ := HCZ.out W hW
          go_simp
          exact ⟨rfl, Below.refl _ _⟩
        · injection ho with ho; subst ho
          have hg : A.tmps[184]?.getD undef = .bool true := he 3 (by kernel_rfl)
          refine .inl ⟨wanted_yes (d := 184) rfl (by kernel_rfl) hg, ?_⟩
          have h194 : A.tmps[194]?.getD undef = .complex .f64 (fw z.a) (fw z.b) := he 13 (by kernel_rfl)
          go_simp
          refine Calls.mono (Spn.to_any (sp_of HMZ.out) W) ?_
          rintro e' w' ⟨rfl, rfl⟩
          exact ⟨_, rfl, rfl, Below.refl _ _⟩
        · injection ho with ho; subst ho
          have hg : A.tmps[184]?.getD undef = .bool true := he 3 (by kernel_rfl)
          refine .inl ⟨wanted_yes (d := 184) rfl (by kernel_rfl) hg, ?_⟩
          have h187 : A.tmps[187]?.getD undef = .int .i64 y.a := he 6 (by kernel_rfl)
          have h195 : A.tmps[195]?.getD undef = .int .i64 z.b := he 14 (by kernel_rfl)
          go_simp
          exact ⟨rfl, Below.refl _ _⟩
        · injection ho with ho; subst ho
          refine .inl ⟨wanted_free rfl, ?_⟩
          have h184 : A.tmps[184]?.getD undef = .bool true := he 3 (by kernel_rfl)
          have h196 : A.tmps[196]?.getD undef = .bool true := he 15 (by kernel_rfl)
          go_simp
          exact ⟨rfl, Below.refl _ _⟩
        · injection ho with ho; subst ho
          refine .inl ⟨wanted_free rfl, ?_⟩
          have h197 : A.tmps[197]?.getD undef = .bool true := he 16 (by kernel_rfl)
          go_simp
          exact ⟨rfl, Below.refl _ _⟩
        · injection ho with ho; subst ho
          have hg : A.tmps[198]?.getD undef = .bool true := he 17 (by kernel_rfl)
          refine .inl ⟨wanted_yes (d := 198) rfl (by kernel_rfl) hg, ?_⟩
          have h20 : A.tmps[20]?.getD undef = .pointer (some ⟨g20, 0, none⟩) := hk 20 (by rfl)
          go_simp
          exact ⟨rfl, Below.refl _ _⟩
        · injection ho with ho; subst ho
          have hg : A.tmps[198]?.getD undef = .bool true := he 17 (by kernel_rfl)
          refine .inl ⟨wanted_yes (d := 198) rfl (by kernel_rfl) hg, ?_⟩
          have h199 : A.tmps[199]?.getD undef = .pointer (some ⟨g20, 1, none⟩) := he 18 (by kernel_rfl)
          have c0 := (S20c.out.below hW S20c.out.lt).cell 1
          go_simp
          exact ⟨rfl, Below.refl _ _⟩
        · injection ho with ho; subst ho
          have hg : A.tmps[198]?.getD undef = .bool true := he 17 (by kernel_rfl)
          refine .inl ⟨wanted_yes (d := 198) rfl (by kernel_rfl) hg, ?_⟩
          have h200 : A.tmps[200]?.getD undef = .complex .f64 (fw y.a) (fw y.b) := he 19 (by kernel_rfl)
          go_simp
          exact ⟨rfl, Below.refl _ _⟩
        · injection ho with ho; subst ho
          refine .inl ⟨wanted_free rfl, ?_⟩
          have h198 : A.tmps[198]?.getD undef = .bool true := he 17 (by kernel_rfl)
          have h201 : A.tmps[201]?.getD undef = .bool true := he 20 (by kernel_rfl)
          go_simp
          exact ⟨rfl, Below.refl _ _⟩
        · injection ho with ho; subst ho
          refine .inl ⟨wanted_free rfl, ?_⟩
          have h202 : A.tmps[202]?.getD undef = .bool true := he 21 (by kernel_rfl)
          go_simp
          exact ⟨rfl, Below.refl _ _⟩
        · injection ho with ho; subst ho
          have hg : A.tmps[203]?.getD undef = .bool true := he 22 (by kernel_rfl)
          refine .inl ⟨wanted_yes (d := 203) rfl (by kernel_rfl) hg, ?_⟩
          go_simp
          refine Calls.mono (wakes12_any W) ?_
          rintro e' w' ⟨rfl, hb⟩
          exact ⟨_, rfl, rfl, hb⟩
      · intro xs W hW hV
        have e203 : xs 22 = .bool true := hV 22 (by simp)
        have e204 : xs 23 = .bool true := hV 23 (by simp)
        simp only [List.length_cons, List.length_nil, Nat.zero_add, Nat.reduceAdd, List.drop_succ_cons, List.drop_zero, putL, Act.put, List.setIfInBounds_toArray, List.set_cons_zero, List.set_cons_succ, e203, e204]
        clear hV e203 e204
        have HBX := Lib.hid (HB9.out.trans (hW.mono HB9.out.size))
        clear hW
        go_wp2_with fail
        go_ret
        exact ⟨rfl, HBX.out⟩
end Go.Proofs.Ytokkcbhmmhmfmaa.Cap
