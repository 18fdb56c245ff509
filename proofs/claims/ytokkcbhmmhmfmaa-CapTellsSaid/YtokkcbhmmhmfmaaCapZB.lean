/- Layer 12 (cap): the walk of CapTells. -/
import Derived.Test.YtokkcbhmmhmfmaaCapC
namespace Go.Proofs.Ytokkcbhmmhmfmaa.Cap
open Go.RowKit Go.Proofs.Ytokkcbhmmhmfmaa.Mem Go.Proofs.Ytokkcbhmmhmfmaa.Flow Go.Proofs.Ytokkcbhmmhmfmaa.Mmr

theorem topD_top {m : Mm} {w : Dm} (h : Rep m w) : topD w = topP m := by funext i; exact top_rep h i
theorem rep_loc {m : Mm} {w : Dm} (h : Rep m w) : ∀ y ∈ w.l, 0 ≤ y.loc ∧ y.loc < 4 := fun y hy => by have := h.loc y hy; have := h.ok.most; omega
structure CtAt (w : World) (g5 : Nat) (p : Nat → Option Addr) (c : Nat → Nat) (m : Mm) (q : Option Addr) (d : Nat) (dm : Dm) (W : World) : Prop where
  at5 : Sits W g5 31 (memCells p c m)
  at6 : Sits W (g5 + 1) 37 (dmCells q d dm)
  hold : Hold W p c m
  holdD : HoldD W q d dm
  low : Below w.heap.size w W
theorem CtAt.grown {w W W' : World} {g5 : Nat} {p : Nat → Option Addr} {c : Nat → Nat} {m : Mm} {q : Option Addr} {d : Nat} {dm : Dm} (h : CtAt w g5 p c m q d dm W) (hb : Below W.heap.size W W') : CtAt w g5 p c m q d dm W' :=
  ⟨h.at5.below hb h.at5.lt, h.at6.below hb h.at6.lt, h.hold.below hb, h.holdD.below hb, h.low.trans (hb.mono h.low.size)⟩
set_option maxRecDepth 100000 in
set_option maxHeartbeats 8000000 in
theorem captells_law (start : List Int) (l : List It) (ps pl : Option Addr) (cs cl : Nat) (w : World) (hN : Nums w ps start) (hL : Rts w pl l) (hsl : start.length ≤ 9223372036854775807) (hll : l.length ≤ 9223372036854775807) :
    Calls Try.prog 5 #[.slice ps start.length cs, .slice pl l.length cl] w (Made (.returned (.bool true)) w) := by
  by_cases h1 : 150 < l.length
  · have k0 : (150 : Int) < (l.length : Int) := by omega
    have i1 : (start.length : Int) ≤ 9223372036854775807 := by omega
    have i2 : (l.length : Int) ≤ 9223372036854775807 := by omega
    clear hsl hll h1 hN hL
    go_enter Try.func5, Try.ntmps5
    go_wp2_with fail
    refine (wakes12_any _).mono ?_
    rintro e w1 ⟨rfl, hb⟩
    go_wp2_with fail
    go_ret
    exact ⟨rfl, hb⟩
  by_cases h2 : start.length < 1
  · have k0 : ¬ (150 : Int) < (l.length : Int) := by omega
    have k1 : (start.length : Int) < 1 := by omega
    have i1 : (start.length : Int) ≤ 9223372036854775807 := by omega
    have i2 : (l.length : Int) ≤ 9223372036854775807 := by omega
    clear hsl hll h1 h2 hN hL
    go_enter Try.func5, Try.ntmps5
    go_wp2_with fail
    refine (wakes12_any _).mono ?_
    rintro e w1 ⟨rfl, hb⟩
    go_wp2_with fail
    go_ret
    exact ⟨rfl, hb⟩
  by_cases h3 : 4 < start.length
  · have k0 : ¬ (150 : Int) < (l.length : Int) := by omega
    have k1 : ¬ (start.length : Int) < 1 := by omega
    have k2 : (4 : Int) < (start.length : Int) := by omega
    have i1 : (start.length : Int) ≤ 9223372036854775807 := by omega
    have i2 : (l.length : Int) ≤ 9223372036854775807 := by omega
    clear hsl hll h1 h2 h3 hN hL
    go_enter Try.func5, Try.ntmps5
    go_wp2_with fail
    refine (wakes12_any _).mono ?_
    rintro e w1 ⟨rfl, hb⟩
    go_wp2_with fail
    go_ret
    exact ⟨rfl, hb⟩
  have k0 : ¬ (150 : Int) < (l.length : Int) := by omega
  have k1 : ¬ (start.length : Int) < 1 := by omega
  have k2 : ¬ (4 : Int) < (start.length : Int) := by omega
  have HC := Lib.hid (made_any start l ps pl cs cl w hN hL (by omega) (by omega) (by omega))
  clear hsl hll h1 h2 h3 hN hL
  go_enter Try.func5, Try.ntmps5
  go_wp2_with fail
  refine HC.out.mono ?_
  rintro e w1 ⟨p, c, m, q, d, dm, rfl, hh, hd, hR, hn, hb⟩
  have HR := Lib.hid hR
  have HB1 := Lib.hid hb
  have HH1 := Lib.hid hh
  have HD1 := Lib.hid hd
  have HT : Hid (CtAt w w1.heap.size p c m q d dm ((w1.alloc (.cells (memCells p c m) 31)).alloc (.cells (dmCells q d dm) 37))) := Lib.hid
    ⟨(Sits.new _ _ _).alloc _, Sits.made (by simp) _ _, hh.below (two_low _ _ _), hd.below (two_low _ _ _), hb.trans ((two_low _ _ _).mono hb.size)⟩
  clear hh hd hR hn hb HC HB1 HH1 HD1
  go_upto_region 4 with (fail)
  generalize (w1.alloc (.cells (memCells p c m) 31)).alloc (.cells (dmCells q d dm) 37) = w2 at HT ⊢
  generalize w1.heap.size = g5 at HT ⊢
  have HCR := Lib.hid (cap_rep HR.out)
  have HCC := Lib.hid (fun W hh => capped_any p c m HR.out.ok W hh)
  have HCD := Lib.hid (fun W hh => dcapped_any q d dm m HR.out W hh)
  obtain ⟨mc, e1, hmc⟩ : ∃ mc e1, capP m = (mc, e1) := ⟨_, _, rfl⟩
  obtain ⟨dc, e2, hdc⟩ : ∃ dc e2, capD dm = (dc, e2) := ⟨_, _, rfl⟩
  rw [hmc, hdc] at HCR
  rw [hmc] at HCC
  rw [hdc] at HCD
  clear hmc hdc
  have HRC : Hid (Rep mc dc) := Lib.hid HCR.out.2
  obtain rfl : e1 = e2 := HCR.out.1
  clear HCR
  have lb := (HT.out.at5).lt
  have b0 : w2.cell? ⟨g5, 0, none⟩ = some (.slice (p 0) (m.row 0).length (c 0)) := (HT.out.at5).cell 0
  have b1 : w2.cell? ⟨g5, 1, none⟩ = some (.slice (p 1) (m.row 1).length (c 1)) := (HT.out.at5).cell 1
  have b2 : w2.cell? ⟨g5, 2, none⟩ = some (.slice (p 2) (m.row 2).length (c 2)) := (HT.out.at5).cell 2
  have b3 : w2.cell? ⟨g5, 3, none⟩ = some (.slice (p 3) (m.row 3).length (c 3)) := (HT.out.at5).cell 3
  have b4 : w2.cell? ⟨g5, 4, none⟩ = some (.int .i64 (m.n : Nat)) := (HT.out.at5).cell 4
  go_wp2_with fail
  refine (HCC.out w2 HT.out.hold).mono ?_
  rintro e w3 ⟨p2, c2, rfl, hh, hb⟩
  dsimp only at hh ⊢
  have S8 := Lib.hid (Sits.new w3 31 (memCells p2 c2 mc))
  have HB3 : Hid (Below w2.heap.size w2 (w3.alloc (.cells (memCells p2 c2 mc) 31))) := Lib.hid (hb.trans ((one_low w3 (.cells (memCells p2 c2 mc) 31)).mono hb.size))
  have HT3 := Lib.hid (HT.out.grown HB3.out)
  have HH3 := Lib.hid (hh.below (one_low w3 (.cells (memCells p2 c2 mc) 31)))
  clear hh hb HCC HT HB3
  clear lb b0 b1 b2 b3 b4
  go_upto_region 7 with (fail)
  generalize w3.alloc (.cells (memCells p2 c2 mc) 31) = w4 at S8 HT3 HH3 ⊢
  generalize w3.heap.size = g8 at S8 ⊢
  have lb := (HT3.out.at6).lt
  have b0 : w4.cell? ⟨g5 + 1, 0, none⟩ = some (.int .i64 (dm.n : Nat)) := (HT3.out.at6).cell 0
  have b1 : w4.cell? ⟨g5 + 1, 1, none⟩ = some (.slice q dm.l.length d) := (HT3.out.at6).cell 1
  go_wp2_with fail
  refine (HCD.out w4 HT3.out.holdD).mono ?_
  rintro e w5 ⟨q2, d2, rfl, hh, hb⟩
  dsimp only at hh ⊢
  have S10 := Lib.hid (Sits.new w5 37 (dmCells q2 d2 dc))
  have HB5 : Hid (Below w4.heap.size w4 (w5.alloc (.cells (dmCells q2 d2 dc) 37))) := Lib.hid (hb.trans ((one_low w5 (.cells (dmCells q2 d2 dc) 37)).mono hb.size))
  have HT5 := Lib.hid (HT3.out.grown HB5.out)
  have HH5 := Lib.hid (HH3.out.below HB5.out)
  have S8b := Lib.hid (S8.out.below HB5.out S8.out.lt)
  have HD5 := Lib.hid (hh.below (one_low w5 (.cells (dmCells q2 d2 dc) 37)))
  clear hh hb HCD HT3 HB5 S8 HH3
  clear lb b0 b1
  go_upto_region 8 with (fail)
  generalize w5.alloc (.cells (dmCells q2 d2 dc) 37) = w6 at S8b S10 HT5 HH5 HD5 ⊢
  generalize w5.heap.size = g10 at S10 ⊢
  have HTP := Lib.hid (fun W hh => top_any p c m HR.out.ok W hh)
  have HTD := Lib.hid (fun W hh => dtop_any q d dm (by have := HR.out.len; omega) (rep_loc HR.out) W hh)
  rw [topD_top HR.out] at HTD
  generalize topP m = tf at HTP HTD
  refine wp_flowG [45, 46, 47, 48, 49, 50, 51, 52, 53, 54, 55, 56, 57, 58, 59, 60, 61] [eqV (.int .i64 e1), eqV (.int .i64 e1), eqV (.bool true), eqV (.bool true), eqV (.agg #[.slice (p2 0) (mc.row 0).length (c2 0), .slice (p2 1) (mc.row 1).length (c2 1), .slice (p2 2) (mc.row 2).length (c2 2), .slice (p2 3) (mc.row 3).length (c2 3), .int .i64 (mc.n : Nat)]), eqV (.agg #[.int .i64 (dc.n : Nat), .slice q2 dc.l.length d2]), eqV (.bool true), eqV (.bool true), eqV (.bool true), eqV (.agg #[.slice (p 0) (m.row 0).length (c 0), .slice (p 1) (m.row 1).length (c 1), .slice (p 2) (m.row 2).length (c 2), .slice (p 3) (m.row 3).length (c 3), .int .i64 (m.n : Nat)]), eqV (.agg (arrC tf)), eqV (.agg #[.int .i64 (dm.n : Nat), .slice q dm.l.length d]), eqV (.agg (arrC tf)), eqV (.bool true), eqV (.bool true), eqV (.bool true), eqV (.bool true)] (by kernel_rfl) (by kernel_rfl) (by kernel_rfl) (by kernel_rfl) (by rfl)
    (by simp only [List.mem_cons, List.not_mem_nil, or_false, forall_eq_or_imp, forall_eq]; refine ⟨?_, ?_, ?_, ?_, ?_, ?_, ?_, ?_, ?_, ?_, ?_, ?_, ?_, ?_, ?_, ?_, ?_⟩ <;> (first | exact eqV_mono _ | exact memE_mono _ _ | exact memW_mono _ | exact listW_mono _ | exact rtsW_mono _ | exact dmE_mono _ _)) ?_ ?_
  · intro i o hi ho A W hW hk he
    simp only [List.length_cons, List.length_nil, Nat.zero_add, Nat.reduceAdd] at hi
    obtain rfl | rfl | rfl | rfl | rfl | rfl | rfl | rfl | rfl | rfl | rfl | rfl | rfl | rfl | rfl | rfl | rfl : i = 0 ∨ i = 1 ∨ i = 2 ∨ i = 3 ∨ i = 4 ∨ i = 5 ∨ i = 6 ∨ i = 7 ∨ i = 8 ∨ i = 9 ∨ i = 10 ∨ i = 11 ∨ i = 12 ∨ i = 13 ∨ i = 14 ∨ i = 15 ∨ i = 16 := by omega
    · injection ho with ho; subst ho
      refine .inl ⟨wanted_free rfl, ?_⟩
      have h9 : A.tmps[9]?.getD undef = .int .i64 e1 := hk 9 (by rfl)
      go_simp
      exact ⟨rfl, Below.refl _ _⟩
    · injection ho with ho; subst ho
      refine .inl ⟨wanted_free rfl, ?_⟩
      have h11 : A.tmps[11]?.getD undef = .int .i64 e1 := hk 11 (by rfl)
      go_simp
      exact ⟨rfl, Below.refl _ _⟩
    · injection ho with ho; subst ho
      refine .inl ⟨wanted_free rfl, ?_⟩
      have h45 : A.tmps[45]?.getD undef = .int .i64 e1 := he 0 (by kernel_rfl)
      have h46 : A.tmps[46]?.getD undef = .int .i64 e1 := he 1 (by kernel_rfl)
      go_simp
      exact ⟨rfl, Below.refl _ _⟩
    · injection ho with ho; subst ho
      refine .inl ⟨wanted_free rfl, ?_⟩
      have h47 : A.tmps[47]?.getD undef = .bool true := he 2 (by kernel_rfl)
      go_simp
      exact ⟨rfl, Below.refl _ _⟩
    · injection ho with ho; subst ho
      have hg : A.tmps[48]?.getD undef = .bool true := he 3 (by kernel_rfl)
      refine .inl ⟨wanted_yes (d := 48) rfl (by kernel_rfl) hg, ?_⟩
      have h8 : A.tmps[8]?.getD undef = .pointer (some ⟨g8, 0, none⟩) := hk 8 (by rfl)
      have c0 := (S8b.out.below hW S8b.out.lt).cell 0
      have c1 := (S8b.out.below hW S8b.out.lt).cell 1
      have c2 := (S8b.out.below hW S8b.out.lt).cell 2
      have c3 := (S8b.out.below hW S8b.out.lt).cell 3
      have c4 := (S8b.out.below hW S8b.out.lt).cell 4
      go_simp
      exact ⟨rfl, Below.refl _ _⟩
    · injection ho with ho; subst ho
      have hg : A.tmps[48]?.getD undef = .bool true := he 3 (by kernel_rfl)
      refine .inl ⟨wanted_yes (d := 48) rfl (by kernel_rfl) hg, ?_⟩
      have h10 : A.tmps[10]?.getD undef = .pointer (some ⟨g10, 0, none⟩) := hk 10 (by rfl)
      have c0 := (S10.out.below hW S10.out.lt).cell 0
      have c1 := (S10.out.below hW S10.out.lt).cell 1
      go_simp
      exact ⟨rfl, Below.refl _ _⟩
    · injection ho with ho; subst ho
      have hg : A.tmps[48]?.getD undef = .bool true := he 3 (by kernel_rfl)
      refine .inl ⟨wanted_yes (d := 48) rfl (by kernel_rfl) hg, ?_⟩
      have h49 : A.tmps[49]?.getD undef = .agg #[.slice (p2 0) (mc.row 0).length (c2 0), .slice (p2 1) (mc.row 1).length (c2 1), .slice (p2 2) (mc.row 2).length (c2 2), .slice (p2 3) (mc.row 3).length (c2 3), .int .i64 (mc.n : Nat)] := he 4 (by kernel_rfl)
      have h50 : A.tmps[50]?.getD undef = .agg #[.int .i64 (dc.n : Nat), .slice q2 dc.l.length d2] := he 5 (by kernel_rfl)
      go_simp
      refine Calls.mono (same_any p2 c2 mc q2 d2 dc HRC.out W (HH5.out.below hW) (HD5.out.below hW)) ?_
      rintro e' w' ⟨rfl, hb⟩
      exact ⟨_, rfl, rfl, hb⟩
    · injection ho with ho; subst ho
      refine .inl ⟨wanted_free rfl, ?_⟩
      have h48 : A.tmps[48]?.getD undef = .bool true := he 3 (by kernel_rfl)
      have h51 : A.tmps[51]?.getD undef = .bool true := he 6 (by kernel_rfl)
      go_simp
      exact ⟨rfl, Below.refl _ _⟩
    · injection ho with ho; subst ho
      refine .inl ⟨wanted_free rfl, ?_⟩
      have h52 : A.tmps[52]?.getD undef = .bool true := he 7 (by kernel_rfl)
      go_simp
      exact ⟨rfl, Below.refl _ _⟩
    · injection ho with ho; subst ho
      have hg : A.tmps[53]?.getD undef = .bool true := he 8 (by kernel_rfl)
      refine .inl ⟨wanted_yes (d := 53) rfl (by kernel_rfl) hg, ?_⟩
      have h5 : A.tmps[5]?.getD undef = .pointer (some ⟨g5, 0, none⟩) := hk 5 (by rfl)
      have c0 := ((HT5.out.grown hW).at5).cell 0
      have c1 := ((HT5.out.grown hW).at5).cell 1
      have c2 := ((HT5.out.grown hW).at5).cell 2
      have c3 := ((HT5.out.grown hW).at5).cell 3
      have c4 := ((HT5.out.grown hW).at5).cell 4
      go_simp
      exact ⟨rfl, Below.refl _ _⟩
    · injection ho with ho; subst ho
      have hg : A.tmps[53]?.getD undef = .bool true := he 8 (by kernel_rfl)
      refine .inl ⟨wanted_yes (d := 53) rfl (by kernel_rfl) hg, ?_⟩
      have h54 : A.tmps[54]?.getD undef = .agg #[.slice (p 0) (m.row 0).length (c 0), .slice (p 1) (m.row 1).length (c 1), .slice (p 2) (m.row 2).length (c 2), .slice (p 3) (m.row 3).length (c 3), .int .i64 (m.n : Nat)] := he 9 (by kernel_rfl)
      go_simp
      refine Calls.mono (HTP.out W (HT5.out.grown hW).hold) ?_
      rintro e' w' ⟨rfl, hb⟩
      exact ⟨_, rfl, rfl, hb⟩
    · injection ho with ho; subst ho
      have hg : A.tmps[53]?.getD undef = .bool true := he 8 (by kernel_rfl)
      refine .inl ⟨wanted_yes (d := 53) rfl (by kernel_rfl) hg, ?_⟩
      have h6 : A.tmps[6]?.getD undef = .pointer (some ⟨g5 + 1, 0, none⟩) := hk 6 (by rfl)
      have c0 := ((HT5.out.grown hW).at6).cell 0
      have c1 := ((HT5.out.grown hW).at6).cell 1
      go_simp
      exact ⟨rfl, Below.refl _ _⟩
    · injection ho with ho; subst ho
      have hg : A.tmps[53]?.getD undef = .bool true := he 8 (by kernel_rfl)
      refine .inl ⟨wanted_yes (d := 53) rfl (by kernel_rfl) hg, ?_⟩
      have h56 : A.tmps[56]?.getD undef = .agg #[.int .i64 (dm.n : Nat), .slice q dm.l.length d] := he 11 (by kernel_rfl)
      go_simp
      refine Calls.mono (HTD.out W (HT5.out.grown hW).holdD) ?_
      rintro e' w' ⟨rfl, hb⟩
      exact ⟨_, rfl, rfl, hb⟩
    · injection ho with ho; subst ho
      have hg : A.tmps[53]?.getD undef = .bool true := he 8 (by kernel_rfl)
      refine .inl ⟨wanted_yes (d := 53) rfl (by kernel_rfl) hg, ?_⟩
      have h55 : A.tmps[55]?.getD undef = .agg (arrC tf) := he 10 (by kernel_rfl)
      have h57 : A.tmps[57]?.getD undef = .agg (arrC tf) := he 12 (by kernel_rfl)
      have hq : (binOp .eql 24 (.agg (arrC tf)) (.agg (arrC tf))).run Try.prog W = .ok (.bool true) W := by have h := Vew.eql_arr tf tf W; rw [show Vew.sameF 4 tf tf = true from Vew.same_iff.2 (fun _ _ => rfl)] at h; exact h
      have hgd : ∀ u v, (eqGuard .eql 24 u v (.agg (arrC tf)) (.agg (arrC tf))).run Try.prog W = .ok () W := fun u v => Vew.guard_arr .eql u v tf tf W
      generalize Value.agg (arrC tf) = X at h55 h57 hq hgd
      go_simp
      exact ⟨rfl, Below.refl _ _⟩
    · injection ho with ho; subst ho
      refine .inl ⟨wanted_free rfl, ?_⟩
      have h53 : A.tmps[53]?.getD undef = .bool true := he 8 (by kernel_rfl)
      have h58 : A.tmps[58]?.getD undef = .bool true := he 13 (by kernel_rfl)
      go_simp
      exact ⟨rfl, Below.refl _ _⟩
    · injection ho with ho; subst ho
      refine .inl ⟨wanted_free rfl, ?_⟩
      have h59 : A.tmps[59]?.getD undef = .bool true := he 14 (by kernel_rfl)
      go_simp
      exact ⟨rfl, Below.refl _ _⟩
    · injection ho with ho; subst ho
      have hg : A.tmps[60]?.getD undef = .bool true := he 15 (by kernel_rfl)
      refine .inl ⟨wanted_yes (d := 60) rfl (by kernel_rfl) hg, ?_⟩
      go_simp
      refine Calls.mono (wakes12_any W) ?_
      rintro e' w' ⟨rfl, hb⟩
      exact ⟨_, rfl, rfl, hb⟩
  · intro xs W hW hV
    have e60 : xs 15 = .bool true := hV 15 (by simp)
    have e61 : xs 16 = .bool true := hV 16 (by simp)
    simp only [List.length_cons, List.length_nil, Nat.zero_add, Nat.reduceAdd, List.drop_succ_cons, List.drop_zero, putL, Act.put, List.setIfInBounds_toArray, List.set_cons_zero, List.set_cons_succ, e60, e61]
    clear hV e60 e61
    have HB7 := Lib.hid (HT5.out.grown hW).low
    clear hW
    go_wp2_with fail
    go_ret
    exact ⟨rfl, HB7.out⟩
end Go.Proofs.Ytokkcbhmmhmfmaa.Cap
