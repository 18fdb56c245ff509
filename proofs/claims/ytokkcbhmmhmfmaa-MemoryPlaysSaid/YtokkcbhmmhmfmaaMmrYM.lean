/- Layer 11 (memory): the walk of MemoryPlays. -/
import Derived.Test.YtokkcbhmmhmfmaaMmrYL
import Derived.Test.YtokkcbhmmhmfmaaMmrR
namespace Go.Proofs.Ytokkcbhmmhmfmaa.Mmr
open Go.RowKit Go.Proofs.Ytokkcbhmmhmfmaa.Mem Go.Proofs.Ytokkcbhmmhmfmaa.Flow

/-- Beside it, an item in a box of this round. -/
structure PlX (w : World) (g11 g13 B g18 : Nat) (x : It) (s : Sn) (S : List Sn) (r15 : Option Addr) (d15 : Nat) (r16 : Option Addr) (d16 : Nat) (W : World) : Prop where
  pl : PlAt w g11 g13 B s S S r15 d15 r16 d16 W
  at18 : Sits W g18 47 (rtCells x)
  ge18 : B ≤ g18
section
variable {w W W' : World} {g11 g13 B g18 : Nat} {x : It} {s : Sn} {S : List Sn} {r15 r16 : Option Addr} {d15 d16 : Nat}
theorem PlX.grown (h : PlX w g11 g13 B g18 x s S r15 d15 r16 d16 W) (hb : Below W.heap.size W W') : PlX w g11 g13 B g18 x s S r15 d15 r16 d16 W' := ⟨h.pl.grown hb, h.at18.below hb h.at18.lt, h.ge18⟩
theorem PlX.put11 (h : PlX w g11 g13 B g18 x s S r15 d15 r16 d16 W) {p : Nat → Option Addr} {c : Nat → Nat} {m : Mm} (hh : Hold W p c m) : PlX w g11 g13 B g18 x { s with p := p, c := c, m := m } S r15 d15 r16 d16 (W.setRow g11 (memCells p c m)) :=
  ⟨h.pl.put11 hh, (setRow_other W _ _ _ (by have := h.pl.lt11; have := h.ge18; omega)).trans h.at18, h.ge18⟩
theorem PlX.put13 (h : PlX w g11 g13 B g18 x s S r15 d15 r16 d16 W) {q : Option Addr} {e : Nat} {dm : Dm} (hh : HoldD W q e dm) : PlX w g11 g13 B g18 x { s with q := q, d := e, dm := dm } S r15 d15 r16 d16 (W.setRow g13 (dmCells q e dm)) :=
  ⟨h.pl.put13 hh, (setRow_other W _ _ _ (by have := h.pl.lt13; have := h.ge18; omega)).trans h.at18, h.ge18⟩
end
theorem at_any' (p : Nat → Option Addr) (c : Nat → Nat) (m : Mm) (hO : OkM m) (loc te : Int) (w : World) (hH : Hold w p c m) :
    Calls Try.prog 19 #[memV p c m, .int .i64 loc, .int .i64 te] w (Made (.returned (.tuple #[itV ((atF m loc te).getD zeroX), .bool (atF m loc te).isSome])) w) := by
  have h := at_any p c m hO loc te w hH
  unfold GivesI at h
  rw [show itO (atF m loc te) = itV ((atF m loc te).getD zeroX) by
    cases atF m loc te with
    | none => show Value.agg zeroIt = .agg (itCells zeroX); rw [zeroX_it]
    | some x => rfl] at h
  exact h
theorem at_may {m : Mm} (hO : OkM m) (loc te : Int) : MayX ((atF m loc te).getD zeroX) := by
  cases h : atF m loc te with
  | none => exact zeroX_may
  | some x =>
    show MayX x
    unfold atF lastF at h
    split at h
    · have := List.mem_of_find?_eq_some h
      rw [List.mem_reverse] at this
      exact hO.may _ _ this
    · cases h
theorem sits_lay {W : World} {g : Nat} {t : TypeId} {cs : Array Value} (h : Sits W g t cs) : Lay W (some ⟨g, 0, none⟩) cs.toList := fun j u hu =>
  ⟨g, 0, rfl, h.lt, by rw [Nat.zero_add, h.cell j, ← Array.getElem?_toList]; exact hu⟩
theorem mem_cells {B : Nat} {W : World} {r : Option Addr} {d k : Nat} {S : List Sn} {t : Sn} (h : Cut2 31 5 B W r S.length d (cellsOf memL S)) (ht : S[k]? = some t) : ∃ g o, r = some ⟨g, o, none⟩ ∧ ∀ W', Below W.heap.size W W' →
    W'.cell? ⟨g, o + k * 5, none⟩ = some (.slice (t.p 0) (t.m.row 0).length (t.c 0)) ∧ W'.cell? ⟨g, o + k * 5 + 1, none⟩ = some (.slice (t.p 1) (t.m.row 1).length (t.c 1)) ∧ W'.cell? ⟨g, o + k * 5 + 2, none⟩ = some (.slice (t.p 2) (t.m.row 2).length (t.c 2)) ∧
    W'.cell? ⟨g, o + k * 5 + 3, none⟩ = some (.slice (t.p 3) (t.m.row 3).length (t.c 3)) ∧ W'.cell? ⟨g, o + k * 5 + 4, none⟩ = some (.int .i64 (t.m.n : Nat)) := by
  have ha : ∀ i, i < 5 → (cellsOf memL S)[k * 5 + i]? = (memL t)[i]? := fun i hi => cells_at memL_len S k t i ht hi
  obtain ⟨g, o, e, _, _⟩ := h.lay (k * 5 + 0) _ (ha 0 (by omega))
  have hc : ∀ i u, i < 5 → (memL t)[i]? = some u → ∀ W', Below W.heap.size W W' → W'.cell? ⟨g, o + k * 5 + i, none⟩ = some u := fun i u hi hu W' hb => by
    obtain ⟨g', o', e', hlt, hcu⟩ := h.lay (k * 5 + i) u ((ha i hi).trans hu)
    rw [e] at e'; injection e' with e'; injection e' with e1 e2; subst e1 e2
    rw [Nat.add_assoc]
    exact (Below.cell hb (p := ⟨g, o + (k * 5 + i), none⟩) hlt).trans hcu
  exact ⟨g, o, e, fun W' hb => ⟨hc 0 _ (by omega) rfl W' hb, hc 1 _ (by omega) rfl W' hb, hc 2 _ (by omega) rfl W' hb, hc 3 _ (by omega) rfl W' hb, hc 4 _ (by omega) rfl W' hb⟩⟩
theorem dm_cells {B : Nat} {W : World} {r : Option Addr} {d k : Nat} {S : List Sn} {t : Sn} (h : Cut2 37 2 B W r S.length d (cellsOf dmL S)) (ht : S[k]? = some t) : ∃ g o, r = some ⟨g, o, none⟩ ∧ ∀ W', Below W.heap.size W W' →
    W'.cell? ⟨g, o + k * 2, none⟩ = some (.int .i64 (t.dm.n : Nat)) ∧ W'.cell? ⟨g, o + k * 2 + 1, none⟩ = some (.slice t.q t.dm.l.length t.d) := by
  have ha : ∀ i, i < 2 → (cellsOf dmL S)[k * 2 + i]? = (dmL t)[i]? := fun i hi => cells_at dmL_len S k t i ht hi
  obtain ⟨g, o, e, _, _⟩ := h.lay (k * 2 + 0) _ (ha 0 (by omega))
  have hc : ∀ i u, i < 2 → (dmL t)[i]? = some u → ∀ W', Below W.heap.size W W' → W'.cell? ⟨g, o + k * 2 + i, none⟩ = some u := fun i u hi hu W' hb => by
    obtain ⟨g', o', e', hlt, hcu⟩ := h.lay (k * 2 + i) u ((ha i hi).trans hu)
    rw [e] at e'; injection e' with e'; injection e' with e1 e2; subst e1 e2
    rw [Nat.add_assoc]
    exact (Below.cell hb (p := ⟨g, o + (k * 2 + i), none⟩) hlt).trans hcu
  exact ⟨g, o, e, fun W' hb => ⟨hc 0 _ (by omega) rfl W' hb, hc 1 _ (by omega) rfl W' hb⟩⟩
set_option maxRecDepth 100000 in
set_option maxHeartbeats 16000000 in
theorem plays_law (start : List Int) (l : List Ac) (ps pl : Option Addr) (cs cl : Nat) (loc te : Int) (v : Nat → Int) (w : World) (hN : Nums w ps start) (hA : Acts w pl l) (hsl : start.length ≤ 9223372036854775807) (hll : l.length ≤ 9223372036854775807) (hR : ∀ a ∈ l, Rng a.x) :
    Calls Try.prog 3 #[.slice ps start.length cs, .slice pl l.length cl, .int .i64 loc, .int .i64 te, Vew.vewV v] w (Made (.returned (.bool true)) w) := by
  have H0 : Hid (Sits (w.alloc (.cells (Vew.vewCells v) 26)) w.heap.size 26 (Vew.vewCells v) ∧ Below w.heap.size w (w.alloc (.cells (Vew.vewCells v) 26)) ∧ (w.alloc (.cells (Vew.vewCells v) 26)).heap.size = w.heap.size + 1) := Lib.hid ⟨Sits.new _ _ _, one_low _ _, by simp⟩
  by_cases h1 : 150 < l.length
  · have k0 : (150 : Int) < (l.length : Int) := by omega
    have i1 : (start.length : Int) ≤ 9223372036854775807 := by omega
    have i2 : (l.length : Int) ≤ 9223372036854775807 := by omega
    clear hsl hll h1 hN hA hR
    go_enter Try.func3, Try.ntmps3
    go_upto_region 1 with (fail)
    generalize w.alloc (.cells (Vew.vewCells v) 26) = w0 at H0 ⊢
    go_wp2_with fail
    refine (wakes_any _).mono ?_
    rintro e w1 ⟨rfl, hb⟩
    go_wp2_with fail
    go_ret
    exact ⟨rfl, H0.out.2.1.trans (hb.mono H0.out.2.1.size)⟩
  by_cases h2 : 10 < start.length
  · have k0 : ¬ (150 : Int) < (l.length : Int) := by omega
    have k1 : (10 : Int) < (start.length : Int) := by omega
    have i1 : (start.length : Int) ≤ 9223372036854775807 := by omega
    have i2 : (l.length : Int) ≤ 9223372036854775807 := by omega
    clear hsl hll h1 h2 hN hA hR
    go_enter Try.func3, Try.ntmps3
    go_upto_region 1 with (fail)
    generalize w.alloc (.cells (Vew.vewCells v) 26) = w0 at H0 ⊢
    go_wp2_with fail
    refine (wakes_any _).mono ?_
    rintro e w1 ⟨rfl, hb⟩
    go_wp2_with fail
    go_ret
    exact ⟨rfl, H0.out.2.1.trans (hb.mono H0.out.2.1.size)⟩
  have HL1 := Lib.hid (show start.length ≤ 10 ∧ l.length ≤ 150 by omega)
  have k0 : ¬ (150 : Int) < (l.length : Int) := by omega
  have k1 : ¬ (10 : Int) < (start.length : Int) := by omega
  have HN := Lib.hid (hN.below H0.out.2.1)
  have HA := Lib.hid (hA.below H0.out.2.1)
  have HRG := Lib.hid hR
  clear h1 h2 hsl hll hN hA hR
  go_enter Try.func3, Try.ntmps3
  go_upto_region 1 with (fail)
  generalize w.alloc (.cells (Vew.vewCells v) 26) = w0 at H0 HN HA ⊢
  have HC := Lib.hid (begin_any ps cs start (by have := HL1.out; omega) w0 HN.out)
  have HCD := Lib.hid (fun W (h : Nums W ps start) => dbegin_any ps cs start (by have := HL1.out; omega) W h)
  obtain ⟨m0, e0, he0⟩ : ∃ m0 e0, beginE start = (m0, e0) := ⟨_, _, rfl⟩
  obtain ⟨n0, f0, hf0⟩ : ∃ n0 f0, dBeginE start = (n0, f0) := ⟨_, _, rfl⟩
  rw [he0] at HC
  rw [hf0] at HCD
  have HE0 := Lib.hid he0
  have HF0 := Lib.hid hf0
  clear he0 hf0
  go_wp2_with fail
  refine HC.out.mono ?_
  rintro e w1 ⟨p0, c0, rfl, hh, hb⟩
  dsimp only at hh ⊢
  have S11 := Lib.hid (Sits.new w1 31 (memCells p0 c0 m0))
  have HH := Lib.hid (hh.below (one_low w1 (.cells (memCells p0 c0 m0) 31)))
  have HB := Lib.hid (hb.trans ((one_low w1 (.cells (memCells p0 c0 m0) 31)).mono hb.size))
  have G11 := Lib.hid hb.size
  clear hb hh HC
  go_upto_region 4 with (fail)
  generalize w1.alloc (.cells (memCells p0 c0 m0) 31) = w2 at S11 HH HB ⊢
  generalize w1.heap.size = g11 at S11 G11 ⊢
  go_wp2_with fail
  refine (HCD.out _ (HN.out.below HB.out)).mono ?_
  rintro e w3 ⟨q0, d0, rfl, hh, hb⟩
  dsimp only at hh ⊢
  have S13 := Lib.hid (Sits.new w3 37 (dmCells q0 d0 n0))
  have HB2 : Hid (Below w2.heap.size w2 (w3.alloc (.cells (dmCells q0 d0 n0) 37))) := Lib.hid (hb.trans ((one_low w3 (.cells (dmCells q0 d0 n0) 37)).mono hb.size))
  have S11b := Lib.hid (S11.out.below HB2.out S11.out.lt)
  have HHb := Lib.hid (HH.out.below HB2.out)
  have HHD := Lib.hid (hh.below (one_low w3 (.cells (dmCells q0 d0 n0) 37)))
  have HBb := Lib.hid (HB.out.trans (HB2.out.mono HB.out.size))
  have G13 : Hid (w0.heap.size ≤ w3.heap.size) := Lib.hid (Nat.le_trans HB.out.size hb.size)
  clear hb hh HCD HB2 S11 HH HB
  go_upto_region 5 with (fail)
  generalize w3.alloc (.cells (dmCells q0 d0 n0) 37) = w4 at S13 S11b HHb HHD HBb ⊢
  generalize w3.heap.size = g13 at S13 G13 ⊢
  by_cases hs : start.length < 1 ∨ 4 < start.length
  · obtain ⟨rfl, rfl⟩ : m0 = noMem ∧ e0 = 1 := by
      have h := HE0.out
      unfold beginE at h
      rw [if_pos hs] at h
      injection h with h1 h2
      exact ⟨h1.symm, h2.symm⟩
    obtain rfl : f0 = 1 := by
      have h := HF0.out
      unfold dBeginE at h
      rw [if_pos hs] at h
      injection h with _ h2
      exact h2.symm
    clear hs
    have lb := (S11b.out).lt
    have b0 : w4.cell? ⟨g11, 0, none⟩ = some (.slice (p0 0) (noMem.row 0).length (c0 0)) := (S11b.out).cell 0
    have b1 : w4.cell? ⟨g11, 1, none⟩ = some (.slice (p0 1) (noMem.row 1).length (c0 1)) := (S11b.out).cell 1
    have b2 : w4.cell? ⟨g11, 2, none⟩ = some (.slice (p0 2) (noMem.row 2).length (c0 2)) := (S11b.out).cell 2
    have b3 : w4.cell? ⟨g11, 3, none⟩ = some (.slice (p0 3) (noMem.row 3).length (c0 3)) := (S11b.out).cell 3
    have b4 : w4.cell? ⟨g11, 4, none⟩ = some (.int .i64 (noMem.n : Nat)) := (S11b.out).cell 4
    go_wp2_with fail
    refine (locs_any p0 c0 noMem w4).mono ?_
    rintro e w5 ⟨rfl, hb⟩
    have HB5 := Lib.hid (HBb.out.trans (hb.mono HBb.out.size))
    clear lb b0 b1 b2 b3 b4
    clear hb
    have hz : ((noMem.n : Nat) : Int) = 0 := rfl
    rw [hz]
    clear hz
    go_wp2_with fail
    refine (wakes_any _).mono ?_
    rintro e w6 ⟨rfl, hb⟩
    have HB6 := Lib.hid (HB5.out.trans (hb.mono HB5.out.size))
    clear hb
    go_wp2_with fail
    go_ret
    exact ⟨rfl, H0.out.2.1.trans (HB6.out.mono H0.out.2.1.size)⟩
  obtain ⟨rfl, rfl⟩ : m0 = beginL start ∧ e0 = 0 := by
    have h := HE0.out
    unfold beginE at h
    rw [if_neg hs] at h
    injection h with h1 h2
    exact ⟨h1.symm, h2.symm⟩
  obtain ⟨rfl, rfl⟩ : n0 = dBegin start ∧ f0 = 0 := by
    have h := HF0.out
    unfold dBeginE at h
    rw [if_neg hs] at h
    injection h with h1 h2
    exact ⟨h1.symm, h2.symm⟩
  have HR0 := Lib.hid (rep_begin (l := start) (by omega) (by omega))
  have HP0 : Hid (PlAt w0 g11 g13 w4.heap.size ⟨p0, c0, beginL start, q0, d0, dBegin start⟩ [] [] none 0 none 0 w4) := Lib.hid
    ⟨S11b.out, S13.out, ⟨HHb.out, HHD.out⟩, cut2_of ⟨by simp [cellsOf], .inl ⟨rfl, rfl⟩⟩, Dull.none _, cut2_of ⟨by simp [cellsOf], .inl ⟨rfl, rfl⟩⟩, Dull.none _, fun t ht => by simp at ht, fun t ht => by simp at ht, HBb.out, G11.out, G13.out, S11b.out.lt, S13.out.lt, Nat.le_refl _⟩
  clear hs HE0 HF0 S11b S13 HHb HHD HBb G11 G13
  generalize w4.heap.size = B at HP0
  generalize hs0 : (⟨p0, c0, beginL start, q0, d0, dBegin start⟩ : Sn) = s0 at HP0
  have HR1 : Hid (Rep s0.m s0.dm) := Lib.hid (by rw [← hs0]; exact HR0.out)
  clear hs0 HR0
  go_wp2_with fail
  refine wp_loop_ghost_k (fun n A W => ∃ (i : Nat) (s : Sn) (S : List Sn) (r15 : Option Addr) (d15 : Nat) (r16 : Option Addr) (d16 : Nat), i ≤ l.length ∧ n = l.length - i ∧ Fr 215 [(0, .slice ps start.length cs), (1, .slice pl l.length cl), (2, .int .i64 loc), (3, .int .i64 te), (9, .pointer (some ⟨w.heap.size, 0, none⟩)), (11, .pointer (some ⟨g11, 0, none⟩)), (13, .pointer (some ⟨g13, 0, none⟩)), (15, .slice r15 S.length d15), (16, .slice r16 S.length d16), (17, .int .i64 (i : Nat))] A ∧ PlAt w0 g11 g13 B s S S r15 d15 r16 d16 W ∧ Rep s.m s.dm ∧ (∀ t ∈ S, Rep t.m t.dm) ∧ S.length ≤ i) l.length ?_ ?_
  · exact ⟨0, s0, [], none, 0, none, 0, by omega, by omega, ⟨rfl, rfl, by simp only [List.mem_cons, List.not_mem_nil, or_false, forall_eq_or_imp, forall_eq]; exact ⟨rfl, rfl, rfl, rfl, rfl, rfl, rfl, rfl, rfl, rfl⟩⟩, HP0.out, HR1.out, fun t ht => by simp at ht, Nat.le_refl _⟩
  · rintro n ⟨T, D⟩ wr ⟨i, s, S, r15, d15, r16, d16, hi, rfl, hF, hW, hR, hRS, hSL⟩ J K hJ hK
    obtain ⟨hsz, hdf, hat⟩ := hF
    simp only [List.mem_cons, List.not_mem_nil, or_false, forall_eq_or_imp, forall_eq] at hsz hdf hat
    obtain ⟨q0, q1, q2, q3, q4, q5, q6, q7, q8, q9⟩ := hat
    subst hdf
    have hsp := spread T 215 hsz
    simp only [List.range, List.range.loop, List.map_cons, List.map_nil, q0, q1, q2, q3, q4, q5, q6, q7, q8, q9] at hsp
    rw [hsp]
    clear hsp hsz q0 q1 q2 q3 q4 q5 q6 q7 q8 q9
    have HW := Lib.hid hW
    have HR := Lib.hid hR
    have HRS := Lib.hid hRS
    have HSL := Lib.hid hSL
    clear hW hR hRS hSL HP0 HR1
    by_cases hlt : i < l.length
    · have hx : l[i]? = some l[i] := List.getElem?_eq_getElem hlt
      have HRX := Lib.hid (HRG.out _ (List.getElem_mem hlt))
      have HX := Lib.hid hx
      obtain ⟨g, o, hpl, lg, hc⟩ := (HA.out.below HW.out.low).there hx
      generalize l[i] = a at hx hc HX HRX
      obtain ⟨a0, a1, a2, a3, a4, a5, a6, a7, a8, a9, a10, a11, a12, a13, a14⟩ := hc
      have j1 : (i : Int) < (l.length : Int) := by omega
      have j0 : (0 : Int) ≤ (i : Int) := by omega
      have HLT := Lib.hid hlt
      clear hx hlt hi
      subst hpl
      go_upto_region 15 with (fail)
      have S18 := Lib.hid (Sits.new wr 47 (rtCells a.x))
      have HW1 := Lib.hid (HW.out.grown (one_low wr (.cells (rtCells a.x) 47)))
      have G18 : Hid (B ≤ wr.heap.size) := Lib.hid HW.out.leB
      clear a0 a1 a2 a3 a4 a5 a6 a7 a8 a9 a10 a11 a12 a13 a14 lg
      generalize wr.alloc (.cells (rtCells a.x) 47) = w3 at S18 HW1 ⊢
      generalize wr.heap.size = g18 at S18 G18 ⊢
      clear HW
      have HX1 : Hid (PlX w0 g11 g13 B g18 a.x s S r15 d15 r16 d16 w3) := Lib.hid ⟨HW1.out, S18.out, G18.out⟩
      clear S18 G18 HW1
      obtain ⟨g', o', e', lg, hc⟩ := (HA.out.below HX1.out.pl.low).there HX.out
      injection e' with e'
      injection e' with e1 e2
      subst e1 e2
      obtain ⟨a0, a1, a2, a3, a4, a5, a6, a7, a8, a9, a10, a11, a12, a13, a14⟩ := hc
      clear a1 a2 a3 a4 a5 a6 a7 a8 a9 a10 a11 a12 a13 a14
      go_upto_block 2 with fail
      clear a0 lg
      refine wp_cut (fun A W => ∃ p' c' q' d', Fr 215 [(0, .slice ps start.length cs), (1, .slice (some ⟨g, o, none⟩) l.length cl), (2, .int .i64 loc), (3, .int .i64 te), (9, .pointer (some ⟨w.heap.size, 0, none⟩)), (11, .pointer (some ⟨g11, 0, none⟩)), (13, .pointer (some ⟨g13, 0, none⟩)), (15, .slice r15 S.length d15), (16, .slice r16 S.length d16), (17, .int .i64 (i : Nat)), (18, .pointer (some ⟨g18, 0, none⟩)), (19, .int .i64 (actF s.m a).2), (20, .int .i64 (dactF s.dm a).2)] A ∧ PlX w0 g11 g13 B g18 a.x ⟨p', c', (actF s.m a).1, q', d', (dactF s.dm a).1⟩ S r15 d15 r16 d16 W) ?rest ?first
      case first =>
        intro J K hJ hK
        have HDN : Hid (s.dm.l.length ≤ 1000) := Lib.hid (by have := HR.out.len; omega)
        have HDM := Lib.hid HR.out.may
        have lb := (HX1.out.pl.at11).lt
        have b0 : w3.cell? ⟨g11, 0, none⟩ = some (.slice (s.p 0) (s.m.row 0).length (s.c 0)) := (HX1.out.pl.at11).cell 0
        have b1 : w3.cell? ⟨g11, 1, none⟩ = some (.slice (s.p 1) (s.m.row 1).length (s.c 1)) := (HX1.out.pl.at11).cell 1
        have b2 : w3.cell? ⟨g11, 2, none⟩ = some (.slice (s.p 2) (s.m.row 2).length (s.c 2)) := (HX1.out.pl.at11).cell 2
        have b3 : w3.cell? ⟨g11, 3, none⟩ = some (.slice (s.p 3) (s.m.row 3).length (s.c 3)) := (HX1.out.pl.at11).cell 3
        have b4 : w3.cell? ⟨g11, 4, none⟩ = some (.int .i64 (s.m.n : Nat)) := (HX1.out.pl.at11).cell 4
        have lr := (HX1.out.at18).lt
        have r0 : w3.cell? ⟨g18, 0, none⟩ = some (.int .i64 a.x.loc) := (HX1.out.at18).cell 0
        have r1 : w3.cell? ⟨g18, 1, none⟩ = some (.int .i64 a.x.a) := (HX1.out.at18).cell 1
        have r2 : w3.cell? ⟨g18, 2, none⟩ = some (.int .i64 a.x.b) := (HX1.out.at18).cell 2
        have r3 : w3.cell? ⟨g18, 3, none⟩ = some (.int .u64 a.x.n) := (HX1.out.at18).cell 3
        have r4 : w3.cell? ⟨g18, 4, none⟩ = some (.int .i64 (a.x.v 0)) := (HX1.out.at18).cell 4
        have r5 : w3.cell? ⟨g18, 5, none⟩ = some (.int .i64 (a.x.v 1)) := (HX1.out.at18).cell 5
        have r6 : w3.cell? ⟨g18, 6, none⟩ = some (.int .i64 (a.x.v 2)) := (HX1.out.at18).cell 6
        have r7 : w3.cell? ⟨g18, 7, none⟩ = some (.int .i64 (a.x.v 3)) := (HX1.out.at18).cell 7
        have r8 : w3.cell? ⟨g18, 8, none⟩ = some (.int .i64 (a.x.v 4)) := (HX1.out.at18).cell 8
        have r9 : w3.cell? ⟨g18, 9, none⟩ = some (.int .i64 (a.x.v 5)) := (HX1.out.at18).cell 9
        have r10 : w3.cell? ⟨g18, 10, none⟩ = some (.int .i64 (a.x.v 6)) := (HX1.out.at18).cell 10
        have r11 : w3.cell? ⟨g18, 11, none⟩ = some (.int .i64 (a.x.v 7)) := (HX1.out.at18).cell 11
        have r12 : w3.cell? ⟨g18, 12, none⟩ = some (.bool a.x.res) := (HX1.out.at18).cell 12
        have r13 : w3.cell? ⟨g18, 13, none⟩ = some (.int .i64 a.x.owner) := (HX1.out.at18).cell 13
        by_cases h0 : a.do_ = 0
        · have HAF : Hid (actF s.m a = fulfilF s.m a.x.loc a.x.b a.x.owner) := Lib.hid (by unfold actF; rw [if_pos h0])
          have HAD : Hid (dactF s.dm a = dFulfil s.dm a.x.loc a.x.b a.x.owner) := Lib.hid (by unfold dactF; rw [if_pos h0])
          have HC := Lib.hid (fulfil_any s.p s.c s.m HR.out.ok a.x.loc a.x.b a.x.owner w3 HX1.out.pl.keep.hold)
          have k0 : (a.do_ == 0) = true := by simpa using h0
          clear h0
          go_wp2_with fail
          refine HC.out.mono ?_
          rintro e w5 ⟨p', c', rfl, hh, hb⟩
          rw [← HAF.out] at hh ⊢
          have HX2 := Lib.hid (HX1.out.grown hb)
          have HH := Lib.hid hh
          clear hb hh HC
          clear lb b0 b1 b2 b3 b4
          clear lr r0 r1 r2 r3 r4 r5 r6 r7 r8 r9 r10 r11 r12 r13
          go_upto_region 21 with (refine wpList_store_row rfl 31 _ _ rfl g11 (memCells p' c' (actF s.m a).1) rfl rfl 31 _ HX2.out.pl.at11 memSize rfl (mem_one _ _ _) ?_)
          have HX3 := Lib.hid (HX2.out.put11 HH.out)
          clear HX2 HH
          generalize w5.setRow g11 (memCells p' c' (actF s.m a).1) = w6 at HX3 ⊢
          have lb := (HX3.out.pl.at13).lt
          have b0 : w6.cell? ⟨g13, 0, none⟩ = some (.int .i64 (s.dm.n : Nat)) := (HX3.out.pl.at13).cell 0
          have b1 : w6.cell? ⟨g13, 1, none⟩ = some (.slice s.q s.dm.l.length s.d) := (HX3.out.pl.at13).cell 1
          have lr := (HX3.out.at18).lt
          have r0 : w6.cell? ⟨g18, 0, none⟩ = some (.int .i64 a.x.loc) := (HX3.out.at18).cell 0
          have r1 : w6.cell? ⟨g18, 1, none⟩ = some (.int .i64 a.x.a) := (HX3.out.at18).cell 1
          have r2 : w6.cell? ⟨g18, 2, none⟩ = some (.int .i64 a.x.b) := (HX3.out.at18).cell 2
          have r3 : w6.cell? ⟨g18, 3, none⟩ = some (.int .u64 a.x.n) := (HX3.out.at18).cell 3
          have r4 : w6.cell? ⟨g18, 4, none⟩ = some (.int .i64 (a.x.v 0)) := (HX3.out.at18).cell 4
          have r5 : w6.cell? ⟨g18, 5, none⟩ = some (.int .i64 (a.x.v 1)) := (HX3.out.at18).cell 5
          have r6 : w6.cell? ⟨g18, 6, none⟩ = some (.int .i64 (a.x.v 2)) := (HX3.out.at18).cell 6
          have r7 : w6.cell? ⟨g18, 7, none⟩ = some (.int .i64 (a.x.v 3)) := (HX3.out.at18).cell 7
          have r8 : w6.cell? ⟨g18, 8, none⟩ = some (.int .i64 (a.x.v 4)) := (HX3.out.at18).cell 8
          have r9 : w6.cell? ⟨g18, 9, none⟩ = some (.int .i64 (a.x.v 5)) := (HX3.out.at18).cell 9
          have r10 : w6.cell? ⟨g18, 10, none⟩ = some (.int .i64 (a.x.v 6)) := (HX3.out.at18).cell 10
          have r11 : w6.cell? ⟨g18, 11, none⟩ = some (.int .i64 (a.x.v 7)) := (HX3.out.at18).cell 11
          have r12 : w6.cell? ⟨g18, 12, none⟩ = some (.bool a.x.res) := (HX3.out.at18).cell 12
          have r13 : w6.cell? ⟨g18, 13, none⟩ = some (.int .i64 a.x.owner) := (HX3.out.at18).cell 13
          have HC := Lib.hid (dfulfil_any s.q s.d s.dm HDN.out a.x.loc a.x.b a.x.owner w6 HX3.out.pl.keep.holdD)
          go_wp2_with fail
          refine HC.out.mono ?_
          rintro e w7 ⟨q', d', rfl, hh, hb⟩
          rw [← HAD.out] at hh ⊢
          have HX4 := Lib.hid (HX3.out.grown hb)
          have HH := Lib.hid hh
          clear hb hh HC HX3
          clear lb b0 b1
          clear lr r0 r1 r2 r3 r4 r5 r6 r7 r8 r9 r10 r11 r12 r13
          go_wp2_with (refine wpList_store_row rfl 37 _ _ rfl g13 (dmCells q' d' (dactF s.dm a).1) rfl rfl 37 _ HX4.out.pl.at13 dmSize rfl (dm_one _ _ _) ?_)
          refine Met.intro ?_
          go_step
          exact ⟨p', c', q', d', ⟨rfl, rfl, by simp only [List.mem_cons, List.not_mem_nil, or_false, forall_eq_or_imp, forall_eq]; exact ⟨rfl, rfl, rfl, rfl, rfl, rfl, rfl, rfl, rfl, rfl, rfl, rfl, rfl⟩⟩, HX4.out.put13 HH.out⟩
        by_cases h1 : a.do_ = 1
        · have HAF : Hid (actF s.m a = cancelF s.m a.x.loc a.x.b a.x.owner) := Lib.hid (by unfold actF; rw [if_neg h0, if_pos h1])
          have HAD : Hid (dactF s.dm a = dCancel s.dm a.x.loc a.x.b a.x.owner) := Lib.hid (by unfold dactF; rw [if_neg h0, if_pos h1])
          have HC := Lib.hid (cancel_any s.p s.c s.m HR.out.ok a.x.loc a.x.b a.x.owner w3 HX1.out.pl.keep.hold)
          have k0 : (a.do_ == 0) = false := by simpa using h0
          have k1 : (a.do_ == 1) = true := by simpa using h1
          clear h0 h1
          go_wp2_with fail
          refine HC.out.mono ?_
          rintro e w5 ⟨p', c', rfl, hh, hb⟩
          rw [← HAF.out] at hh ⊢
          have HX2 := Lib.hid (HX1.out.grown hb)
          have HH := Lib.hid hh
          clear hb hh HC
          clear lb b0 b1 b2 b3 b4
          clear lr r0 r1 r2 r3 r4 r5 r6 r7 r8 r9 r10 r11 r12 r13
          go_upto_region 24 with (refine wpList_store_row rfl 31 _ _ rfl g11 (memCells p' c' (actF s.m a).1) rfl rfl 31 _ HX2.out.pl.at11 memSize rfl (mem_one _ _ _) ?_)
          have HX3 := Lib.hid (HX2.out.put11 HH.out)
          clear HX2 HH
          generalize w5.setRow g11 (memCells p' c' (actF s.m a).1) = w6 at HX3 ⊢
          have lb := (HX3.out.pl.at13).lt
          have b0 : w6.cell? ⟨g13, 0, none⟩ = some (.int .i64 (s.dm.n : Nat)) := (HX3.out.pl.at13).cell 0
          have b1 : w6.cell? ⟨g13, 1, none⟩ = some (.slice s.q s.dm.l.length s.d) := (HX3.out.pl.at13).cell 1
          have lr := (HX3.out.at18).lt
          have r0 : w6.cell? ⟨g18, 0, none⟩ = some (.int .i64 a.x.loc) := (HX3.out.at18).cell 0
          have r1 : w6.cell? ⟨g18, 1, none⟩ = some (.int .i64 a.x.a) := (HX3.out.at18).cell 1
          have r2 : w6.cell? ⟨g18, 2, none⟩ = some (.int .i64 a.x.b) := (HX3.out.at18).cell 2
          have r3 : w6.cell? ⟨g18, 3, none⟩ = some (.int .u64 a.x.n) := (HX3.out.at18).cell 3
          have r4 : w6.cell? ⟨g18, 4, none⟩ = some (.int .i64 (a.x.v 0)) := (HX3.out.at18).cell 4
          have r5 : w6.cell? ⟨g18, 5, none⟩ = some (.int .i64 (a.x.v 1)) := (HX3.out.at18).cell 5
          have r6 : w6.cell? ⟨g18, 6, none⟩ = some (.int .i64 (a.x.v 2)) := (HX3.out.at18).cell 6
          have r7 : w6.cell? ⟨g18, 7, none⟩ = some (.int .i64 (a.x.v 3)) := (HX3.out.at18).cell 7
          have r8 : w6.cell? ⟨g18, 8, none⟩ = some (.int .i64 (a.x.v 4)) := (HX3.out.at18).cell 8
          have r9 : w6.cell? ⟨g18, 9, none⟩ = some (.int .i64 (a.x.v 5)) := (HX3.out.at18).cell 9
          have r10 : w6.cell? ⟨g18, 10, none⟩ = some (.int .i64 (a.x.v 6)) := (HX3.out.at18).cell 10
          have r11 : w6.cell? ⟨g18, 11, none⟩ = some (.int .i64 (a.x.v 7)) := (HX3.out.at18).cell 11
          have r12 : w6.cell? ⟨g18, 12, none⟩ = some (.bool a.x.res) := (HX3.out.at18).cell 12
          have r13 : w6.cell? ⟨g18, 13, none⟩ = some (.int .i64 a.x.owner) := (HX3.out.at18).cell 13
          have HC := Lib.hid (dcancel_any s.q s.d s.dm HDN.out a.x.loc a.x.b a.x.owner w6 HX3.out.pl.keep.holdD)
          go_wp2_with fail
          refine HC.out.mono ?_
          rintro e w7 ⟨q', d', rfl, hh, hb⟩
          rw [← HAD.out] at hh ⊢
          have HX4 := Lib.hid (HX3.out.grown hb)
          have HH := Lib.hid hh
          clear hb hh HC HX3
          clear lb b0 b1
          clear lr r0 r1 r2 r3 r4 r5 r6 r7 r8 r9 r10 r11 r12 r13
          go_wp2_with (refine wpList_store_row rfl 37 _ _ rfl g13 (dmCells q' d' (dactF s.dm a).1) rfl rfl 37 _ HX4.out.pl.at13 dmSize rfl (dm_one _ _ _) ?_)
          refine Met.intro ?_
          go_step
          exact ⟨p', c', q', d', ⟨rfl, rfl, by simp only [List.mem_cons, List.not_mem_nil, or_false, forall_eq_or_imp, forall_eq]; exact ⟨rfl, rfl, rfl, rfl, rfl, rfl, rfl, rfl, rfl, rfl, rfl, rfl, rfl⟩⟩, HX4.out.put13 HH.out⟩
        obtain ⟨m2, f2, hmf⟩ : ∃ m2 f2, addF s.m (lawI a.x) = (m2, f2) := ⟨_, _, rfl⟩
        have HAF : Hid (actF s.m a = (m2, f2)) := Lib.hid (by unfold actF; rw [if_neg h0, if_neg h1]; exact hmf)
        have HAD : Hid (dactF s.dm a = dAdd s.dm a.x) := Lib.hid (by unfold dactF; rw [if_neg h0, if_neg h1])
        have HC := Lib.hid (fun W hh => add_any s.p s.c s.m HR.out.ok (lawI a.x) (law_fit a.x) W hh)
        rw [hmf] at HC
        have k0 : (a.do_ == 0) = false := by simpa using h0
        have k1 : (a.do_ == 1) = false := by simpa using h1
        clear h0 h1 hmf
        go_upto_region 17 with (fail)
        clear k0 k1
        refine wp_cut (fun A W => ∃ p' c', Fr 215 [(0, .slice ps start.length cs), (1, .slice (some ⟨g, o, none⟩) l.length cl), (2, .int .i64 loc), (3, .int .i64 te), (9, .pointer (some ⟨w.heap.size, 0, none⟩)), (11, .pointer (some ⟨g11, 0, none⟩)), (13, .pointer (some ⟨g13, 0, none⟩)), (15, .slice r15 S.length d15), (16, .slice r16 S.length d16), (17, .int .i64 (i : Nat)), (18, .pointer (some ⟨g18, 0, none⟩)), (19, .int .i64 f2)] A ∧ PlX w0 g11 g13 B g18 a.x { s with p := p', c := c', m := m2 } S r15 d15 r16 d16 W) ?rest2 ?first2
        case first2 =>
          intro J K hJ hK
          go_region_with (first
            | (go_at_call 16; refine (item_any a.x HRX.out _).mono ?_; rintro e wa ⟨rfl, hba⟩; have HXa := Lib.hid (HX1.out.grown (Below.trans (Below.drew (Below.refl _ w3)) hba)); clear hba; have lb := (HXa.out.pl.at11).lt; have b0 : wa.cell? ⟨g11, 0, none⟩ = some (.slice (s.p 0) (s.m.row 0).length (s.c 0)) := (HXa.out.pl.at11).cell 0; have b1 : wa.cell? ⟨g11, 1, none⟩ = some (.slice (s.p 1) (s.m.row 1).length (s.c 1)) := (HXa.out.pl.at11).cell 1; have b2 : wa.cell? ⟨g11, 2, none⟩ = some (.slice (s.p 2) (s.m.row 2).length (s.c 2)) := (HXa.out.pl.at11).cell 2; have b3 : wa.cell? ⟨g11, 3, none⟩ = some (.slice (s.p 3) (s.m.row 3).length (s.c 3)) := (HXa.out.pl.at11).cell 3; have b4 : wa.cell? ⟨g11, 4, none⟩ = some (.int .i64 (s.m.n : Nat)) := (HXa.out.pl.at11).cell 4)
            | (go_at_call 15; refine (HC.out _ ?_).mono ?_; exact HXa.out.pl.keep.hold; rintro e wb ⟨p2, c2, rfl, hhb, hbb⟩; have HXb := Lib.hid (HXa.out.grown hbb); have HHb := Lib.hid hhb; clear hbb hhb; have le := (HXb.out.pl.at11).lt; have e0 : wb.cell? ⟨g11, 0, none⟩ = some (.slice (s.p 0) (s.m.row 0).length (s.c 0)) := (HXb.out.pl.at11).cell 0; have e1 : wb.cell? ⟨g11, 1, none⟩ = some (.slice (s.p 1) (s.m.row 1).length (s.c 1)) := (HXb.out.pl.at11).cell 1; have e2 : wb.cell? ⟨g11, 2, none⟩ = some (.slice (s.p 2) (s.m.row 2).length (s.c 2)) := (HXb.out.pl.at11).cell 2; have e3 : wb.cell? ⟨g11, 3, none⟩ = some (.slice (s.p 3) (s.m.row 3).length (s.c 3)) := (HXb.out.pl.at11).cell 3; have e4 : wb.cell? ⟨g11, 4, none⟩ = some (.int .i64 (s.m.n : Nat)) := (HXb.out.pl.at11).cell 4; have f0 := HXb.out.pl.at11.free 0; have f1 := HXb.out.pl.at11.free 1; have f2 := HXb.out.pl.at11.free 2; have f3 := HXb.out.pl.at11.free 3; have f4 := HXb.out.pl.at11.free 4))
          all_goals
            refine hK _ _ ?_
            refine Met.intro ?_
            refine hJ _ _ ?_
            refine ⟨p2, c2, ?_, ?_⟩
            · exact ⟨rfl, rfl, by simp only [List.mem_cons, List.not_mem_nil, or_false, forall_eq_or_imp, forall_eq]; exact ⟨rfl, rfl, rfl, rfl, rfl, rfl, rfl, rfl, rfl, rfl, rfl, rfl⟩⟩
            · exact (congrArg (PlX w0 g11 g13 B g18 a.x { s with p := p2, c := c2, m := m2 } S r15 d15 r16 d16) (chain_eq HXb.out.pl.at11)).mpr (HXb.out.put11 HHb.out)
        case rest2 =>
          rintro ⟨T, D⟩ w5 ⟨p', c', hF, hW⟩
          obtain ⟨hsz, hdf, hat⟩ := hF
          simp only [List.mem_cons, List.not_mem_nil, or_false, forall_eq_or_imp, forall_eq] at hsz hdf hat
          obtain ⟨q0, q1, q2, q3, q4, q5, q6, q7, q8, q9, q10, q11⟩ := hat
          subst hdf
          have hsp := spread T 215 hsz
          simp only [List.range, List.range.loop, List.map_cons, List.map_nil, q0, q1, q2, q3, q4, q5, q6, q7, q8, q9, q10, q11] at hsp
          rw [hsp]
          clear hsp hsz q0 q1 q2 q3 q4 q5 q6 q7 q8 q9 q10 q11
          have HX3 := Lib.hid hW
          clear hW HC
          clear lb b0 b1 b2 b3 b4
          clear lr r0 r1 r2 r3 r4 r5 r6 r7 r8 r9 r10 r11 r12 r13
          have lb := (HX3.out.pl.at13).lt
          have b0 : w5.cell? ⟨g13, 0, none⟩ = some (.int .i64 (s.dm.n : Nat)) := (HX3.out.pl.at13).cell 0
          have b1 : w5.cell? ⟨g13, 1, none⟩ = some (.slice s.q s.dm.l.length s.d) := (HX3.out.pl.at13).cell 1
          have lr := (HX3.out.at18).lt
          have r0 : w5.cell? ⟨g18, 0, none⟩ = some (.int .i64 a.x.loc) := (HX3.out.at18).cell 0
          have r1 : w5.cell? ⟨g18, 1, none⟩ = some (.int .i64 a.x.a) := (HX3.out.at18).cell 1
          have r2 : w5.cell? ⟨g18, 2, none⟩ = some (.int .i64 a.x.b) := (HX3.out.at18).cell 2
          have r3 : w5.cell? ⟨g18, 3, none⟩ = some (.int .u64 a.x.n) := (HX3.out.at18).cell 3
          have r4 : w5.cell? ⟨g18, 4, none⟩ = some (.int .i64 (a.x.v 0)) := (HX3.out.at18).cell 4
          have r5 : w5.cell? ⟨g18, 5, none⟩ = some (.int .i64 (a.x.v 1)) := (HX3.out.at18).cell 5
          have r6 : w5.cell? ⟨g18, 6, none⟩ = some (.int .i64 (a.x.v 2)) := (HX3.out.at18).cell 6
          have r7 : w5.cell? ⟨g18, 7, none⟩ = some (.int .i64 (a.x.v 3)) := (HX3.out.at18).cell 7
          have r8 : w5.cell? ⟨g18, 8, none⟩ = some (.int .i64 (a.x.v 4)) := (HX3.out.at18).cell 8
          have r9 : w5.cell? ⟨g18, 9, none⟩ = some (.int .i64 (a.x.v 5)) := (HX3.out.at18).cell 9
          have r10 : w5.cell? ⟨g18, 10, none⟩ = some (.int .i64 (a.x.v 6)) := (HX3.out.at18).cell 10
          have r11 : w5.cell? ⟨g18, 11, none⟩ = some (.int .i64 (a.x.v 7)) := (HX3.out.at18).cell 11
          have r12 : w5.cell? ⟨g18, 12, none⟩ = some (.bool a.x.res) := (HX3.out.at18).cell 12
          have r13 : w5.cell? ⟨g18, 13, none⟩ = some (.int .i64 a.x.owner) := (HX3.out.at18).cell 13
          have HC := Lib.hid (dadd_any s.q s.d s.dm HDN.out HDM.out a.x w5 HX3.out.pl.keep.holdD)
          go_wp2_with fail
          refine HC.out.mono ?_
          rintro e w7 ⟨q', d', rfl, hh, hb⟩
          rw [← HAD.out] at hh ⊢
          have HX4 := Lib.hid (HX3.out.grown hb)
          have HH := Lib.hid hh
          clear hb hh HC HX3
          clear lb b0 b1
          clear lr r0 r1 r2 r3 r4 r5 r6 r7 r8 r9 r10 r11 r12 r13
          go_wp2_with (refine wpList_store_row rfl 37 _ _ rfl g13 (dmCells q' d' (dactF s.dm a).1) rfl rfl 37 _ HX4.out.pl.at13 dmSize rfl (dm_one _ _ _) ?_)
          refine Met.intro ?_
          go_step
          rw [HAF.out]
          exact ⟨p', c', q', d', ⟨rfl, rfl, by simp only [List.mem_cons, List.not_mem_nil, or_false, forall_eq_or_imp, forall_eq]; exact ⟨rfl, rfl, rfl, rfl, rfl, rfl, rfl, rfl, rfl, rfl, rfl, rfl, rfl⟩⟩, HX4.out.put13 HH.out⟩
      case rest =>
        rintro ⟨T, D⟩ W ⟨p', c', q', d', hF, hW⟩
        obtain ⟨hsz, hdf, hat⟩ := hF
        simp only [List.mem_cons, List.not_mem_nil, or_false, forall_eq_or_imp, forall_eq] at hsz hdf hat
        obtain ⟨q0, q1, q2, q3, q4, q5, q6, q7, q8, q9, q10, q11, q12⟩ := hat
        subst hdf
        have hsp := spread T 215 hsz
        simp only [List.range, List.range.loop, List.map_cons, List.map_nil, q0, q1, q2, q3, q4, q5, q6, q7, q8, q9, q10, q11, q12] at hsp
        rw [hsp]
        clear hsp hsz q0 q1 q2 q3 q4 q5 q6 q7 q8 q9 q10 q11 q12
        have HX2 := Lib.hid hW
        clear hW
        have hE := (rep_act HR.out a).1
        have HR2 := Lib.hid (rep_act HR.out a).2
        generalize (actF s.m a).1 = m2 at HX2 HR2
        generalize (dactF s.dm a).1 = n2 at HX2 HR2
        generalize (actF s.m a).2 = f at hE ⊢
        generalize (dactF s.dm a).2 = f' at hE ⊢
        subst hE
        generalize hs2 : (⟨p', c', m2, q', d', n2⟩ : Sn) = s2 at HX2
        have HR3 : Hid (Rep s2.m s2.dm) := Lib.hid (by rw [← hs2]; exact HR2.out)
        clear hs2 HR2
        have HP := Lib.hid HX2.out.pl
        clear HX2 HX1
        have HSZ : Hid (S.length ≤ 150) := Lib.hid (by have := HSL.out; have := HLT.out; have := HL1.out; omega)
        have j3 : (i : Int) ≤ 150 := by have := HLT.out; have := HL1.out; omega
        have kf : (f != f) = false := by simp
        by_cases hm : ((i : Int) % 16 == 0) = true
        rotate_left
        · rw [Bool.not_eq_true] at hm
          go_wp2_with fail
          have hq : l.length - (i + 1) < l.length - i := by have := HLT.out; omega
          refine Handed.intro _ hq ?_
          refine hJ _ _ _ ?_
          exact ⟨i + 1, s2, S, r15, d15, r16, d16, by have := HLT.out; omega, rfl, ⟨rfl, rfl, by simp only [List.mem_cons, List.not_mem_nil, or_false, forall_eq_or_imp, forall_eq]; exact ⟨rfl, rfl, rfl, rfl, rfl, rfl, rfl, rfl, rfl, rfl⟩⟩, HP.out, HR3.out, HRS.out, by have := HSL.out; omega⟩
        have lb := (HP.out.at11).lt
        have b0 : W.cell? ⟨g11, 0, none⟩ = some (.slice (s2.p 0) (s2.m.row 0).length (s2.c 0)) := (HP.out.at11).cell 0
        have b1 : W.cell? ⟨g11, 1, none⟩ = some (.slice (s2.p 1) (s2.m.row 1).length (s2.c 1)) := (HP.out.at11).cell 1
        have b2 : W.cell? ⟨g11, 2, none⟩ = some (.slice (s2.p 2) (s2.m.row 2).length (s2.c 2)) := (HP.out.at11).cell 2
        have b3 : W.cell? ⟨g11, 3, none⟩ = some (.slice (s2.p 3) (s2.m.row 3).length (s2.c 3)) := (HP.out.at11).cell 3
        have b4 : W.cell? ⟨g11, 4, none⟩ = some (.int .i64 (s2.m.n : Nat)) := (HP.out.at11).cell 4
        have HA1 : Hid (PlAt w0 g11 g13 B s2 S S r15 d15 r16 d16 (W.alloc (.cells (memCells s2.p s2.c s2.m) 31))) := Lib.hid (HP.out.grown (one_low _ _))
        have HL1 : Hid (Lay (W.alloc (.cells (memCells s2.p s2.c s2.m) 31)) (some ⟨W.heap.size, 0, none⟩) (memL s2)) := Lib.hid (sits_lay (Sits.new W 31 (memCells s2.p s2.c s2.m)))
        go_upto_region 29 with (at_builtin; refine wpList_append_dull rowMm zeroMm_dull rfl _ _ rfl (B := B) (r := r15) (n := S.length) (d := d15) (xs := cellsOf memL S) rfl HA1.out.all HA1.out.dull15 HA1.out.leB W.heap.size 1 (memL s2) rfl rfl HL1.out (memL_one s2) (memL_dull s2) (by unfold maxLen; have := HSZ.out; omega) (by have := HSZ.out; omega) ?_; intro r3 d3 w6 hg hb hc hd; have HQ1 := Lib.hid (HA1.out.push15 hg hb hc hd); clear hg hb hc hd)
        clear HA1 HL1
        clear lb b0 b1 b2 b3 b4
        have lb := (HQ1.out.at13).lt
        have b0 : w6.cell? ⟨g13, 0, none⟩ = some (.int .i64 (s2.dm.n : Nat)) := (HQ1.out.at13).cell 0
        have b1 : w6.cell? ⟨g13, 1, none⟩ = some (.slice s2.q s2.dm.l.length s2.d) := (HQ1.out.at13).cell 1
        have HA2 : Hid (PlAt w0 g11 g13 B s2 (S ++ [s2]) S r3 d3 r16 d16 (w6.alloc (.cells (dmCells s2.q s2.d s2.dm) 37))) := Lib.hid (HQ1.out.grown (one_low _ _))
        have HL2 : Hid (Lay (w6.alloc (.cells (dmCells s2.q s2.d s2.dm) 37)) (some ⟨w6.heap.size, 0, none⟩) (dmL s2)) := Lib.hid (sits_lay (Sits.new w6 37 (dmCells s2.q s2.d s2.dm)))
        go_wp2_with (at_builtin; refine wpList_append_dull rowDm zeroDm_dull rfl _ _ rfl (B := B) (r := r16) (n := S.length) (d := d16) (xs := cellsOf dmL S) rfl HA2.out.was HA2.out.dull16 HA2.out.leB w6.heap.size 1 (dmL s2) rfl rfl HL2.out (dmL_one s2) (dmL_dull s2) (by unfold maxLen; have := HSZ.out; omega) (by have := HSZ.out; omega) ?_; intro r4 d4 w7 hg hb hc hd; have HQ2 := Lib.hid (HA2.out.push16 hg hb hc hd); clear hg hb hc hd)
        clear HA2 HL2 HQ1
        clear lb b0 b1
        have HLEN : Hid ((S ++ [s2]).length = S.length + 1) := Lib.hid (by simp)
        go_wp2_with fail
        refine Handed.intro (l.length - (i + 1)) (by have := HLT.out; omega) ?_
        refine hJ _ _ _ ?_
        exact ⟨i + 1, s2, S ++ [s2], r3, d3, r4, d4, by have := HLT.out; omega, rfl, ⟨rfl, rfl, by simp only [List.mem_cons, List.not_mem_nil, or_false, forall_eq_or_imp, forall_eq]; exact ⟨rfl, rfl, rfl, rfl, rfl, rfl, rfl, congrArg (fun n => Value.slice r3 n d3) HLEN.out.symm, congrArg (fun n => Value.slice r4 n d4) HLEN.out.symm, rfl⟩⟩, HQ2.out, HR3.out, fun t ht => (by
          rcases List.mem_append.1 ht with ht | ht
          · exact HRS.out t ht
          · rw [List.mem_singleton.1 ht]; exact HR3.out), by have := HSL.out; have := HLEN.out; omega⟩
    · obtain rfl : i = l.length := by omega
      have j1 : ¬ ((l.length : Int) < (l.length : Int)) := by omega
      have HSZ : Hid (S.length ≤ 150) := Lib.hid (by have := HSL.out; have := HL1.out; omega)
      clear hlt hi
      have lb := (HW.out.at11).lt
      have b0 : wr.cell? ⟨g11, 0, none⟩ = some (.slice (s.p 0) (s.m.row 0).length (s.c 0)) := (HW.out.at11).cell 0
      have b1 : wr.cell? ⟨g11, 1, none⟩ = some (.slice (s.p 1) (s.m.row 1).length (s.c 1)) := (HW.out.at11).cell 1
      have b2 : wr.cell? ⟨g11, 2, none⟩ = some (.slice (s.p 2) (s.m.row 2).length (s.c 2)) := (HW.out.at11).cell 2
      have b3 : wr.cell? ⟨g11, 3, none⟩ = some (.slice (s.p 3) (s.m.row 3).length (s.c 3)) := (HW.out.at11).cell 3
      have b4 : wr.cell? ⟨g11, 4, none⟩ = some (.int .i64 (s.m.n : Nat)) := (HW.out.at11).cell 4
      have HA1 : Hid (PlAt w0 g11 g13 B s S S r15 d15 r16 d16 (wr.alloc (.cells (memCells s.p s.c s.m) 31))) := Lib.hid (HW.out.grown (one_low _ _))
      have HL1 : Hid (Lay (wr.alloc (.cells (memCells s.p s.c s.m) 31)) (some ⟨wr.heap.size, 0, none⟩) (memL s)) := Lib.hid (sits_lay (Sits.new wr 31 (memCells s.p s.c s.m)))
      go_upto_region 31 with (at_builtin; refine wpList_append_dull rowMm zeroMm_dull rfl _ _ rfl (B := B) (r := r15) (n := S.length) (d := d15) (xs := cellsOf memL S) rfl HA1.out.all HA1.out.dull15 HA1.out.leB wr.heap.size 1 (memL s) rfl rfl HL1.out (memL_one s) (memL_dull s) (by unfold maxLen; have := HSZ.out; omega) (by have := HSZ.out; omega) ?_; intro r3 d3 w6 hg hb hc hd; have HQ1 := Lib.hid (HA1.out.push15 hg hb hc hd); clear hg hb hc hd)
      clear HA1 HL1
      clear lb b0 b1 b2 b3 b4
      have lb := (HQ1.out.at13).lt
      have b0 : w6.cell? ⟨g13, 0, none⟩ = some (.int .i64 (s.dm.n : Nat)) := (HQ1.out.at13).cell 0
      have b1 : w6.cell? ⟨g13, 1, none⟩ = some (.slice s.q s.dm.l.length s.d) := (HQ1.out.at13).cell 1
      have HA2 : Hid (PlAt w0 g11 g13 B s (S ++ [s]) S r3 d3 r16 d16 (w6.alloc (.cells (dmCells s.q s.d s.dm) 37))) := Lib.hid (HQ1.out.grown (one_low _ _))
      have HL2 : Hid (Lay (w6.alloc (.cells (dmCells s.q s.d s.dm) 37)) (some ⟨w6.heap.size, 0, none⟩) (dmL s)) := Lib.hid (sits_lay (Sits.new w6 37 (dmCells s.q s.d s.dm)))
      go_wp2_with (at_builtin; refine wpList_append_dull rowDm zeroDm_dull rfl _ _ rfl (B := B) (r := r16) (n := S.length) (d := d16) (xs := cellsOf dmL S) rfl HA2.out.was HA2.out.dull16 HA2.out.leB w6.heap.size 1 (dmL s) rfl rfl HL2.out (dmL_one s) (dmL_dull s) (by unfold maxLen; have := HSZ.out; omega) (by have := HSZ.out; omega) ?_; intro r4 d4 w7 hg hb hc hd; have HQ2 := Lib.hid (HA2.out.push16 hg hb hc hd); clear hg hb hc hd)
      clear HA2 HL2 HQ1
      clear lb b0 b1
      have HLEN : Hid ((S ++ [s]).length = S.length + 1) := Lib.hid (by simp)
      have HRS2 : Hid (∀ t ∈ S ++ [s], Rep t.m t.dm) := Lib.hid fun t ht => (by
        rcases List.mem_append.1 ht with ht | ht
        · exact HRS.out t ht
        · rw [List.mem_singleton.1 ht]; exact HR.out)
      have HSZ2 : Hid ((S ++ [s]).length ≤ 151) := Lib.hid (by have := HSZ.out; have := HLEN.out; omega)
      rw [← HLEN.out]
      clear HW HRS HSL HSZ HLEN
      generalize hS2 : S ++ [s] = S2 at HQ2 HRS2 HSZ2 ⊢
      clear hS2
      have i5 : (S2.length : Int) ≤ 151 := by have := HSZ2.out; omega
      go_wp2_with fail
      refine wp_loop_ghost_k (fun n A W => ∃ k : Nat, k ≤ S2.length ∧ n = S2.length - k ∧ Fr 215 [(0, .slice ps start.length cs), (1, .slice pl l.length cl), (2, .int .i64 loc), (3, .int .i64 te), (9, .pointer (some ⟨w.heap.size, 0, none⟩)), (11, .pointer (some ⟨g11, 0, none⟩)), (13, .pointer (some ⟨g13, 0, none⟩)), (15, .slice r3 S2.length d3), (16, .slice r4 S2.length d4), (21, .int .i64 (k : Nat))] A ∧ PlAt w0 g11 g13 B s S2 S2 r3 d3 r4 d4 W) S2.length ?_ ?_
      · exact ⟨0, by omega, by omega, ⟨rfl, rfl, by simp only [List.mem_cons, List.not_mem_nil, or_false, forall_eq_or_imp, forall_eq]; exact ⟨rfl, rfl, rfl, rfl, rfl, rfl, rfl, rfl, rfl, rfl⟩⟩, HQ2.out⟩
      · rintro n ⟨T, D⟩ wr2 ⟨k, hk, rfl, hF, hW⟩ J2 K2 hJ2 hK2
        obtain ⟨hsz, hdf, hat⟩ := hF
        simp only [List.mem_cons, List.not_mem_nil, or_false, forall_eq_or_imp, forall_eq] at hsz hdf hat
        obtain ⟨q0, q1, q2, q3, q4, q5, q6, q7, q8, q9⟩ := hat
        subst hdf
        have hsp := spread T 215 hsz
        simp only [List.range, List.range.loop, List.map_cons, List.map_nil, q0, q1, q2, q3, q4, q5, q6, q7, q8, q9] at hsp
        rw [hsp]
        clear hsp hsz q0 q1 q2 q3 q4 q5 q6 q7 q8 q9
        have HW := Lib.hid hW
        clear hW HQ2
        by_cases hlt : k < S2.length
        · have hx : S2[k]? = some S2[k] := List.getElem?_eq_getElem hlt
          have HRT := Lib.hid (HRS2.out _ (List.getElem_mem hlt))
          have HKT := Lib.hid (HW.out.oldA _ (List.getElem_mem hlt))
          generalize S2[k] = t at hx HRT HKT
          obtain ⟨g3, o3, e3, hc3⟩ := mem_cells HW.out.all hx
          obtain ⟨g4, o4, e4, hc4⟩ := dm_cells HW.out.was hx
          subst e3 e4
          have HC3 := Lib.hid hc3
          have HC4 := Lib.hid hc4
          have j1 : (k : Int) < (S2.length : Int) := by omega
          have j0 : (0 : Int) ≤ (k : Int) := by omega
          have HK := Lib.hid hlt
          clear hx hlt hk hc3 hc4
          go_upto_region 35 with (fail)
          refine wp_flowG (w := wr2) [165, 166, 167, 168, 169, 170, 171, 172, 173] [eqV (.slice (some ⟨g3, o3, none⟩) S2.length d3), eqV (.int .i64 (k : Nat)), eqV (.pointer (some ⟨g3, o3 + k * 5, none⟩)), eqV (memV t.p t.c t.m), eqV (.slice (some ⟨g4, o4, none⟩) S2.length d4), eqV (.int .i64 (k : Nat)), eqV (.pointer (some ⟨g4, o4 + k * 2, none⟩)), eqV (dmV t.q t.d t.dm), eqV (.bool true)] (by kernel_rfl) (by kernel_rfl) (by kernel_rfl) (by kernel_rfl) (by rfl)
            (by simp only [List.mem_cons, List.not_mem_nil, or_false, forall_eq_or_imp, forall_eq]; refine ⟨?_, ?_, ?_, ?_, ?_, ?_, ?_, ?_, ?_⟩ <;> (first | exact eqV_mono _ | exact memE_mono _ _ | exact memW_mono _ | exact listW_mono _ | exact rtsW_mono _ | exact dmE_mono _ _)) ?_ ?_
          · intro i o hi ho A W hW hk he
            simp only [List.length_cons, List.length_nil, Nat.zero_add, Nat.reduceAdd] at hi
            obtain rfl | rfl | rfl | rfl | rfl | rfl | rfl | rfl | rfl : i = 0 ∨ i = 1 ∨ i = 2 ∨ i = 3 ∨ i = 4 ∨ i = 5 ∨ i = 6 ∨ i = 7 ∨ i = 8 := by omega
            · injection ho with ho; subst ho
              refine .inl ⟨wanted_free rfl, ?_⟩
              have h15 : A.tmps[15]?.getD undef = .slice (some ⟨g3, o3, none⟩) S2.length d3 := hk 15 (by rfl)
              go_simp
              exact ⟨rfl, Below.refl _ _⟩
            · injection ho with ho; subst ho
              refine .inl ⟨wanted_free rfl, ?_⟩
              have h21 : A.tmps[21]?.getD undef = .int .i64 (k : Nat) := hk 21 (by rfl)
              go_simp
              exact ⟨rfl, Below.refl _ _⟩
            · injection ho with ho; subst ho
              refine .inl ⟨wanted_free rfl, ?_⟩
              have h165 : A.tmps[165]?.getD undef = .slice (some ⟨g3, o3, none⟩) S2.length d3 := he 0 (by kernel_rfl)
              have h166 : A.tmps[166]?.getD undef = .int .i64 (k : Nat) := he 1 (by kernel_rfl)
              go_simp
              exact ⟨rfl, Below.refl _ _⟩
            · injection ho with ho; subst ho
              refine .inl ⟨wanted_free rfl, ?_⟩
              have h167 : A.tmps[167]?.getD undef = .pointer (some ⟨g3, o3 + k * 5, none⟩) := he 2 (by kernel_rfl)
              obtain ⟨c0, c1, c2, c3, c4⟩ := HC3.out W hW
              go_simp
              exact ⟨rfl, Below.refl _ _⟩
            · injection ho with ho; subst ho
              refine .inl ⟨wanted_free rfl, ?_⟩
              have h16 : A.tmps[16]?.getD undef = .slice (some ⟨g4, o4, none⟩) S2.length d4 := hk 16 (by rfl)
              go_simp
              exact ⟨rfl, Below.refl _ _⟩
            · injection ho with ho; subst ho
              refine .inl ⟨wanted_free rfl, ?_⟩
              have h21 : A.tmps[21]?.getD undef = .int .i64 (k : Nat) := hk 21 (by rfl)
              go_simp
              exact ⟨rfl, Below.refl _ _⟩
            · injection ho with ho; subst ho
              refine .inl ⟨wanted_free rfl, ?_⟩
              have h169 : A.tmps[169]?.getD undef = .slice (some ⟨g4, o4, none⟩) S2.length d4 := he 4 (by kernel_rfl)
              have h170 : A.tmps[170]?.getD undef = .int .i64 (k : Nat) := he 5 (by kernel_rfl)
              go_simp
              exact ⟨rfl, Below.refl _ _⟩
            · injection ho with ho; subst ho
              refine .inl ⟨wanted_free rfl, ?_⟩
              have h171 : A.tmps[171]?.getD undef = .pointer (some ⟨g4, o4 + k * 2, none⟩) := he 6 (by kernel_rfl)
              obtain ⟨c0, c1⟩ := HC4.out W hW
              go_simp
              exact ⟨rfl, Below.refl _ _⟩
            · injection ho with ho; subst ho
              refine .inl ⟨wanted_free rfl, ?_⟩
              have h168 : A.tmps[168]?.getD undef = memV t.p t.c t.m := he 3 (by kernel_rfl)
              have h172 : A.tmps[172]?.getD undef = dmV t.q t.d t.dm := he 7 (by kernel_rfl)
              go_simp
              refine Calls.mono (same_any t.p t.c t.m t.q t.d t.dm HRT.out W (HKT.out.below hW).hold (HKT.out.below hW).holdD) ?_
              rintro e' w' ⟨rfl, hb⟩
              exact ⟨_, rfl, rfl, hb⟩
          · intro xs W hW hV
            have e173 : xs 8 = .bool true := hV 8 (by simp)
            simp only [List.length_cons, List.length_nil, Nat.zero_add, Nat.reduceAdd, List.drop_succ_cons, List.drop_zero, putL, Act.put, List.setIfInBounds_toArray, List.set_cons_zero, List.set_cons_succ, e173]
            clear hV e173
            have HW2 := Lib.hid (HW.out.grown hW)
            clear hW
            go_wp2_with fail
            refine Handed.intro (S2.length - (k + 1)) (by have := HK.out; omega) ?_
            refine hJ2 _ _ _ ?_
            exact ⟨k + 1, by have := HK.out; omega, rfl, ⟨rfl, rfl, by simp only [List.mem_cons, List.not_mem_nil, or_false, forall_eq_or_imp, forall_eq]; exact ⟨rfl, rfl, rfl, rfl, rfl, rfl, rfl, rfl, rfl, rfl⟩⟩, HW2.out⟩
        · obtain rfl : k = S2.length := by omega
          have j1 : ¬ ((S2.length : Int) < (S2.length : Int)) := by omega
          clear hlt hk
          have HC := Lib.hid (at_any' s.p s.c s.m HR.out.ok loc te wr2 HW.out.keep.hold)
          have HCD := Lib.hid (fun W hh => dat_any' s.q s.d s.dm (by have := HR.out.len; omega) loc te W hh)
          have HXM := Lib.hid (at_may HR.out.ok loc te)
          have HCL := Lib.hid (fun W hh => closed_any s.p s.c s.m HR.out.ok v W hh)
          have HCLD := Lib.hid (fun W hh => dclosed_any s.q s.d s.dm (by have := HR.out.len; omega) v W hh)
          rw [rep_at HR.out] at HCD
          rw [rep_closed HR.out] at HCLD
          generalize (atF s.m loc te).getD zeroX = x at HC HCD HXM
          generalize (atF s.m loc te).isSome = b at HC HCD
          generalize closedF s.m v = bc at HCL HCLD
          have lb := (HW.out.at11).lt
          have b0 : wr2.cell? ⟨g11, 0, none⟩ = some (.slice (s.p 0) (s.m.row 0).length (s.c 0)) := (HW.out.at11).cell 0
          have b1 : wr2.cell? ⟨g11, 1, none⟩ = some (.slice (s.p 1) (s.m.row 1).length (s.c 1)) := (HW.out.at11).cell 1
          have b2 : wr2.cell? ⟨g11, 2, none⟩ = some (.slice (s.p 2) (s.m.row 2).length (s.c 2)) := (HW.out.at11).cell 2
          have b3 : wr2.cell? ⟨g11, 3, none⟩ = some (.slice (s.p 3) (s.m.row 3).length (s.c 3)) := (HW.out.at11).cell 3
          have b4 : wr2.cell? ⟨g11, 4, none⟩ = some (.int .i64 (s.m.n : Nat)) := (HW.out.at11).cell 4
          go_wp2_with fail
          refine HC.out.mono ?_
          rintro e w1 ⟨rfl, hb⟩
          have HW1 := Lib.hid (HW.out.grown hb)
          clear hb HC HW
          clear lb b0 b1 b2 b3 b4
          go_upto_region 38 with (fail)
          have S22 := Lib.hid (Sits.new w1 57 (itCells x))
          have HW2 := Lib.hid (HW1.out.grown (one_low w1 (.cells (itCells x) 57)))
          generalize w1.alloc (.cells (itCells x) 57) = w2 at S22 HW2 ⊢
          generalize w1.heap.size = g22 at S22 ⊢
          clear HW1
          have lb := (HW2.out.at13).lt
          have b0 : w2.cell? ⟨g13, 0, none⟩ = some (.int .i64 (s.dm.n : Nat)) := (HW2.out.at13).cell 0
          have b1 : w2.cell? ⟨g13, 1, none⟩ = some (.slice s.q s.dm.l.length s.d) := (HW2.out.at13).cell 1
          go_wp2_with fail
          refine (HCD.out _ HW2.out.keep.holdD).mono ?_
          rintro e w3 ⟨rfl, hb⟩
          have HW3 := Lib.hid (HW2.out.grown hb)
          have S22b := Lib.hid (S22.out.below hb S22.out.lt)
          clear hb HCD HW2 S22
          clear lb b0 b1
          go_upto_region 39 with (fail)
          have S24 := Lib.hid (Sits.new w3 47 (rtCells x))
          have HW4 := Lib.hid (HW3.out.grown (one_low w3 (.cells (rtCells x) 47)))
          have S22c := Lib.hid (S22b.out.alloc (.cells (rtCells x) 47))
          generalize w3.alloc (.cells (rtCells x) 47) = w4 at S22c S24 HW4 ⊢
          generalize w3.heap.size = g24 at S24 ⊢
          clear HW3 S22b
          have HCI : Hid (∀ W, Calls Try.prog 16 #[rtV x] W (Made (.returned (itV x)) W)) := Lib.hid fun W => itm_any HXM.out W
          have hbb : (bc == bc) = true := by simp
          cases b
          · refine wp_flowG [189, 190, 191, 192, 193, 194, 195, 196, 197, 198, 199, 200, 201, 202, 203, 204, 205, 206, 207, 208, 209, 210, 211, 212, 213] [eqV (.bool false), eqV (.bool false), eqV (.bool true), eqV (.bool true), eqV (.bool false), eqV (.bool true), eqV (.bool true), eqV undef, eqV undef, eqV undef, eqV undef, eqV (.bool true), eqV (.bool true), eqV (.bool true), eqV (.agg #[.slice (s.p 0) (s.m.row 0).length (s.c 0), .slice (s.p 1) (s.m.row 1).length (s.c 1), .slice (s.p 2) (s.m.row 2).length (s.c 2), .slice (s.p 3) (s.m.row 3).length (s.c 3), .int .i64 (s.m.n : Nat)]), eqV (Vew.vewV v), eqV (Vew.vewV v), eqV (.bool bc), eqV (.agg #[.int .i64 (s.dm.n : Nat), .slice s.q s.dm.l.length s.d]), eqV (.agg #[.int .i64 (v 0), .int .i64 (v 1), .int .i64 (v 2), .int .i64 (v 3), .int .i64 (v 4), .int .i64 (v 5), .int .i64 (v 6), .int .i64 (v 7)]), eqV (.bool bc), eqV (.bool true), eqV (.bool true), eqV (.bool true), eqV (.bool true)] (by kernel_rfl) (by kernel_rfl) (by kernel_rfl) (by kernel_rfl) (by rfl)
              (by simp only [List.mem_cons, List.not_mem_nil, or_false, forall_eq_or_imp, forall_eq]; refine ⟨?_, ?_, ?_, ?_, ?_, ?_, ?_, ?_, ?_, ?_, ?_, ?_, ?_, ?_, ?_, ?_, ?_, ?_, ?_, ?_, ?_, ?_, ?_, ?_, ?_⟩ <;> (first | exact eqV_mono _ | exact memE_mono _ _ | exact memW_mono _ | exact listW_mono _ | exact rtsW_mono _ | exact dmE_mono _ _)) ?_ ?_
            · intro i o hi ho A W hW hk he
              simp only [List.length_cons, List.length_nil, Nat.zero_add, Nat.reduceAdd] at hi
              obtain rfl | rfl | rfl | rfl | rfl | rfl | rfl | rfl | rfl | rfl | rfl | rfl | rfl | rfl | rfl | rfl | rfl | rfl | rfl | rfl | rfl | rfl | rfl | rfl | rfl : i = 0 ∨ i = 1 ∨ i = 2 ∨ i = 3 ∨ i = 4 ∨ i = 5 ∨ i = 6 ∨ i = 7 ∨ i = 8 ∨ i = 9 ∨ i = 10 ∨ i = 11 ∨ i = 12 ∨ i = 13 ∨ i = 14 ∨ i = 15 ∨ i = 16 ∨ i = 17 ∨ i = 18 ∨ i = 19 ∨ i = 20 ∨ i = 21 ∨ i = 22 ∨ i = 23 ∨ i = 24 := by omega
              · injection ho with ho; subst ho
                refine .inl ⟨wanted_free rfl, ?_⟩
                have h23 : A.tmps[23]?.getD undef = .bool false := hk 23 (by rfl)
                go_simp
                exact ⟨rfl, Below.refl _ _⟩
              · injection ho with ho; subst ho
                refine .inl ⟨wanted_free rfl, ?_⟩
                have h25 : A.tmps[25]?.getD undef = .bool false := hk 25 (by rfl)
                go_simp
                exact ⟨rfl, Below.refl _ _⟩
              · injection ho with ho; subst ho
                refine .inl ⟨wanted_free rfl, ?_⟩
                have h189 : A.tmps[189]?.getD undef = .bool false := he 0 (by kernel_rfl)
                have h190 : A.tmps[190]?.getD undef = .bool false := he 1 (by kernel_rfl)
                go_simp
                exact ⟨rfl, Below.refl _ _⟩
              · injection ho with ho; subst ho
                refine .inl ⟨wanted_free rfl, ?_⟩
                have h191 : A.tmps[191]?.getD undef = .bool true := he 2 (by kernel_rfl)
                go_simp
                exact ⟨rfl, Below.refl _ _⟩
              · injection ho with ho; subst ho
                have hg : A.tmps[192]?.getD undef = .bool true := he 3 (by kernel_rfl)
                refine .inl ⟨wanted_yes (d := 192) rfl (by kernel_rfl) hg, ?_⟩
                have h23 : A.tmps[23]?.getD undef = .bool false := hk 23 (by rfl)
                go_simp
                exact ⟨rfl, Below.refl _ _⟩
              · injection ho with ho; subst ho
                have hg : A.tmps[192]?.getD undef = .bool true := he 3 (by kernel_rfl)
                refine .inl ⟨wanted_yes (d := 192) rfl (by kernel_rfl) hg, ?_⟩
                have h193 : A.tmps[193]?.getD undef = .bool false := he 4 (by kernel_rfl)
                go_simp
                exact ⟨rfl, Below.refl _ _⟩
              · injection ho with ho; subst ho
                have hg : A.tmps[192]?.getD undef = .bool true := he 3 (by kernel_rfl)
                refine .inl ⟨wanted_yes (d := 192) rfl (by kernel_rfl) hg, ?_⟩
                have h194 : A.tmps[194]?.getD undef = .bool true := he 5 (by kernel_rfl)
                go_simp
                exact ⟨rfl, Below.refl _ _⟩
              · injection ho with ho; subst ho
                have hg : A.tmps[195]?.getD undef = .bool true := he 6 (by kernel_rfl)
                exact .inr ⟨wanted_no (d := 195) rfl (by kernel_rfl) hg, rfl⟩
              · injection ho with ho; subst ho
                have hg : A.tmps[195]?.getD undef = .bool true := he 6 (by kernel_rfl)
                exact .inr ⟨wanted_no (d := 195) rfl (by kernel_rfl) hg, rfl⟩
              · injection ho with ho; subst ho
                have hg : A.tmps[195]?.getD undef = .bool true := he 6 (by kernel_rfl)
                exact .inr ⟨wanted_no (d := 195) rfl (by kernel_rfl) hg, rfl⟩
              · injection ho with ho; subst ho
                have hg : A.tmps[195]?.getD undef = .bool true := he 6 (by kernel_rfl)
                exact .inr ⟨wanted_no (d := 195) rfl (by kernel_rfl) hg, rfl⟩
              · injection ho with ho; subst ho
                have hg : A.tmps[192]?.getD undef = .bool true := he 3 (by kernel_rfl)
                refine .inl ⟨wanted_yes (d := 192) rfl (by kernel_rfl) hg, ?_⟩
                have h195 : A.tmps[195]?.getD undef = .bool true := he 6 (by kernel_rfl)
                have h199 : A.tmps[199]?.getD undef = undef := he 10 (by kernel_rfl)
                go_simp
                exact ⟨rfl, Below.refl _ _⟩
              · injection ho with ho; subst ho
                refine .inl ⟨wanted_free rfl, ?_⟩
                have h192 : A.tmps[192]?.getD undef = .bool true := he 3 (by kernel_rfl)
                have h200 : A.tmps[200]?.getD undef = .bool true := he 11 (by kernel_rfl)
                go_simp
                exact ⟨rfl, Below.refl _ _⟩
              · injection ho with ho; subst ho
                refine .inl ⟨wanted_free rfl, ?_⟩
                have h201 : A.tmps[201]?.getD undef = .bool true := he 12 (by kernel_rfl)
                go_simp
                exact ⟨rfl, Below.refl _ _⟩
              · injection ho with ho; subst ho
                have hg : A.tmps[202]?.getD undef = .bool true := he 13 (by kernel_rfl)
                refine .inl ⟨wanted_yes (d := 202) rfl (by kernel_rfl) hg, ?_⟩
                have h11 : A.tmps[11]?.getD undef = .pointer (some ⟨g11, 0, none⟩) := hk 11 (by rfl)
                have c0 := ((HW4.out.grown hW).at11).cell 0
                have c1 := ((HW4.out.grown hW).at11).cell 1
                have c2 := ((HW4.out.grown hW).at11).cell 2
                have c3 := ((HW4.out.grown hW).at11).cell 3
                have c4 := ((HW4.out.grown hW).at11).cell 4
                go_simp
                exact ⟨rfl, Below.refl _ _⟩
              · injection ho with ho; subst ho
                have hg : A.tmps[202]?.getD undef = .bool true := he 13 (by kernel_rfl)
                refine .inl ⟨wanted_yes (d := 202) rfl (by kernel_rfl) hg, ?_⟩
                have h9 : A.tmps[9]?.getD undef = .pointer (some ⟨w.heap.size, 0, none⟩) := hk 9 (by rfl)
                have c0 := (H0.out.1.below (HW4.out.grown hW).low H0.out.1.lt).cell 0
                have c1 := (H0.out.1.below (HW4.out.grown hW).low H0.out.1.lt).cell 1
                have c2 := (H0.out.1.below (HW4.out.grown hW).low H0.out.1.lt).cell 2
                have c3 := (H0.out.1.below (HW4.out.grown hW).low H0.out.1.lt).cell 3
                have c4 := (H0.out.1.below (HW4.out.grown hW).low H0.out.1.lt).cell 4
                have c5 := (H0.out.1.below (HW4.out.grown hW).low H0.out.1.lt).cell 5
                have c6 := (H0.out.1.below (HW4.out.grown hW).low H0.out.1.lt).cell 6
                have c7 := (H0.out.1.below (HW4.out.grown hW).low H0.out.1.lt).cell 7
                go_simp
                exact ⟨rfl, Below.refl _ _⟩
              · injection ho with ho; subst ho
                have hg : A.tmps[202]?.getD undef = .bool true := he 13 (by kernel_rfl)
                refine .inl ⟨wanted_yes (d := 202) rfl (by kernel_rfl) hg, ?_⟩
                have h204 : A.tmps[204]?.getD undef = Vew.vewV v := he 15 (by kernel_rfl)
                go_simp
                refine Calls.mono (view_any v W) ?_
                rintro e' w' ⟨rfl, hb⟩
                exact ⟨_, rfl, rfl, hb⟩
              · injection ho with ho; subst ho
                have hg : A.tmps[202]?.getD undef = .bool true := he 13 (by kernel_rfl)
                refine .inl ⟨wanted_yes (d := 202) rfl (by kernel_rfl) hg, ?_⟩
                have h203 : A.tmps[203]?.getD undef = .agg #[.slice (s.p 0) (s.m.row 0).length (s.c 0), .slice (s.p 1) (s.m.row 1).length (s.c 1), .slice (s.p 2) (s.m.row 2).length (s.c 2), .slice (s.p 3) (s.m.row 3).length (s.c 3), .int .i64 (s.m.n : Nat)] := he 14 (by kernel_rfl)
                have h205 : A.tmps[205]?.getD undef = Vew.vewV v := he 16 (by kernel_rfl)
                go_simp
                refine Calls.mono (HCL.out W (HW4.out.grown hW).keep.hold) ?_
                rintro e' w' ⟨rfl, hb⟩
                exact ⟨_, rfl, rfl, hb⟩
              · injection ho with ho; subst ho
                have hg : A.tmps[202]?.getD undef = .bool true := he 13 (by kernel_rfl)
                refine .inl ⟨wanted_yes (d := 202) rfl (by kernel_rfl) hg, ?_⟩
                have h13 : A.tmps[13]?.getD undef = .pointer (some ⟨g13, 0, none⟩) := hk 13 (by rfl)
                have c0 := ((HW4.out.grown hW).at13).cell 0
                have c1 := ((HW4.out.grown hW).at13).cell 1
                go_simp
                exact ⟨rfl, Below.refl _ _⟩
              · injection ho with ho; subst ho
                have hg : A.tmps[202]?.getD undef = .bool true := he 13 (by kernel_rfl)
                refine .inl ⟨wanted_yes (d := 202) rfl (by kernel_rfl) hg, ?_⟩
                have h9 : A.tmps[9]?.getD undef = .pointer (some ⟨w.heap.size, 0, none⟩) := hk 9 (by rfl)
                have c0 := (H0.out.1.below (HW4.out.grown hW).low H0.out.1.lt).cell 0
                have c1 := (H0.out.1.below (HW4.out.grown hW).low H0.out.1.lt).cell 1
                have c2 := (H0.out.1.below (HW4.out.grown hW).low H0.out.1.lt).cell 2
                have c3 := (H0.out.1.below (HW4.out.grown hW).low H0.out.1.lt).cell 3
                have c4 := (H0.out.1.below (HW4.out.grown hW).low H0.out.1.lt).cell 4
                have c5 := (H0.out.1.below (HW4.out.grown hW).low H0.out.1.lt).cell 5
                have c6 := (H0.out.1.below (HW4.out.grown hW).low H0.out.1.lt).cell 6
                have c7 := (H0.out.1.below (HW4.out.grown hW).low H0.out.1.lt).cell 7
                go_simp
                exact ⟨rfl, Below.refl _ _⟩
              · injection ho with ho; subst ho
                have hg : A.tmps[202]?.getD undef = .bool true := he 13 (by kernel_rfl)
                refine .inl ⟨wanted_yes (d := 202) rfl (by kernel_rfl) hg, ?_⟩
                have h207 : A.tmps[207]?.getD undef = .agg #[.int .i64 (s.dm.n : Nat), .slice s.q s.dm.l.length s.d] := he 18 (by kernel_rfl)
                have h208 : A.tmps[208]?.getD undef = .agg #[.int .i64 (v 0), .int .i64 (v 1), .int .i64 (v 2), .int .i64 (v 3), .int .i64 (v 4), .int .i64 (v 5), .int .i64 (v 6), .int .i64 (v 7)] := he 19 (by kernel_rfl)
                go_simp
                refine Calls.mono (HCLD.out W (HW4.out.grown hW).keep.holdD) ?_
                rintro e' w' ⟨rfl, hb⟩
                exact ⟨_, rfl, rfl, hb⟩
              · injection ho with ho; subst ho
                have hg : A.tmps[202]?.getD undef = .bool true := he 13 (by kernel_rfl)
                refine .inl ⟨wanted_yes (d := 202) rfl (by kernel_rfl) hg, ?_⟩
                have h206 : A.tmps[206]?.getD undef = .bool bc := he 17 (by kernel_rfl)
                have h209 : A.tmps[209]?.getD undef = .bool bc := he 20 (by kernel_rfl)
                go_simp
                exact ⟨rfl, Below.refl _ _⟩
              · injection ho with ho; subst ho
                refine .inl ⟨wanted_free rfl, ?_⟩
                have h202 : A.tmps[202]?.getD undef = .bool true := he 13 (by kernel_rfl)
                have h210 : A.tmps[210]?.getD undef = .bool true := he 21 (by kernel_rfl)
                go_simp
                exact ⟨rfl, Below.refl _ _⟩
              · injection ho with ho; subst ho
                refine .inl ⟨wanted_free rfl, ?_⟩
                have h211 : A.tmps[211]?.getD undef = .bool true := he 22 (by kernel_rfl)
                go_simp
                exact ⟨rfl, Below.refl _ _⟩
              · injection ho with ho; subst ho
                have hg : A.tmps[212]?.getD undef = .bool true := he 23 (by kernel_rfl)
                refine .inl ⟨wanted_yes (d := 212) rfl (by kernel_rfl) hg, ?_⟩
                go_simp
                refine Calls.mono (wakes_any W) ?_
                rintro e' w' ⟨rfl, hb⟩
                exact ⟨_, rfl, rfl, hb⟩
            · intro xs W hW hV
              have e212 : xs 23 = .bool true := hV 23 (by simp)
              have e213 : xs 24 = .bool true := hV 24 (by simp)
              simp only [List.length_cons, List.length_nil, Nat.zero_add, Nat.reduceAdd, List.drop_succ_cons, List.drop_zero, putL, Act.put, List.setIfInBounds_toArray, List.set_cons_zero, List.set_cons_succ, e212, e213]
              clear hV e212 e213
              have HW5 := Lib.hid (HW4.out.grown hW)
              clear hW
              go_wp2_with fail
              go_ret
              exact ⟨rfl, H0.out.2.1.trans (HW5.out.low.mono H0.out.2.1.size)⟩
          · refine wp_flowG [189, 190, 191, 192, 193, 194, 195, 196, 197, 198, 199, 200, 201, 202, 203, 204, 205, 206, 207, 208, 209, 210, 211, 212, 213] [eqV (.bool true), eqV (.bool true), eqV (.bool true), eqV (.bool true), eqV (.bool true), eqV (.bool false), eqV (.bool false), eqV (itV x), eqV (rtV x), eqV (itV x), eqV (.bool true), eqV (.bool true), eqV (.bool true), eqV (.bool true), eqV (.agg #[.slice (s.p 0) (s.m.row 0).length (s.c 0), .slice (s.p 1) (s.m.row 1).length (s.c 1), .slice (s.p 2) (s.m.row 2).length (s.c 2), .slice (s.p 3) (s.m.row 3).length (s.c 3), .int .i64 (s.m.n : Nat)]), eqV (Vew.vewV v), eqV (Vew.vewV v), eqV (.bool bc), eqV (.agg #[.int .i64 (s.dm.n : Nat), .slice s.q s.dm.l.length s.d]), eqV (.agg #[.int .i64 (v 0), .int .i64 (v 1), .int .i64 (v 2), .int .i64 (v 3), .int .i64 (v 4), .int .i64 (v 5), .int .i64 (v 6), .int .i64 (v 7)]), eqV (.bool bc), eqV (.bool true), eqV (.bool true), eqV (.bool true), eqV (.bool true)] (by kernel_rfl) (by kernel_rfl) (by kernel_rfl) (by kernel_rfl) (by rfl)
              (by simp only [List.mem_cons, List.not_mem_nil, or_false, forall_eq_or_imp, forall_eq]; refine ⟨?_, ?_, ?_, ?_, ?_, ?_, ?_, ?_, ?_, ?_, ?_, ?_, ?_, ?_, ?_, ?_, ?_, ?_, ?_, ?_, ?_, ?_, ?_, ?_, ?_⟩ <;> (first | exact eqV_mono _ | exact memE_mono _ _ | exact memW_mono _ | exact listW_mono _ | exact rtsW_mono _ | exact dmE_mono _ _)) ?_ ?_
            · intro i o hi ho A W hW hk he
              simp only [List.length_cons, List.length_nil, Nat.zero_add, Nat.reduceAdd] at hi
              obtain rfl | rfl | rfl | rfl | rfl | rfl | rfl | rfl | rfl | rfl | rfl | rfl | rfl | rfl | rfl | rfl | rfl | rfl | rfl | rfl | rfl | rfl | rfl | rfl | rfl : i = 0 ∨ i = 1 ∨ i = 2 ∨ i = 3 ∨ i = 4 ∨ i = 5 ∨ i = 6 ∨ i = 7 ∨ i = 8 ∨ i = 9 ∨ i = 10 ∨ i = 11 ∨ i = 12 ∨ i = 13 ∨ i = 14 ∨ i = 15 ∨ i = 16 ∨ i = 17 ∨ i = 18 ∨ i = 19 ∨ i = 20 ∨ i = 21 ∨ i = 22 ∨ i = 23 ∨ i = 24 := by omega
              · injection ho with ho; subst ho
                refine .inl ⟨wanted_free rfl, ?_⟩
                have h23 : A.tmps[23]?.getD undef = .bool true := hk 23 (by rfl)
                go_simp
                exact ⟨rfl, Below.refl _ _⟩
              · injection ho with ho; subst ho
                refine .inl ⟨wanted_free rfl, ?_⟩
                have h25 : A.tmps[25]?.getD undef = .bool true := hk 25 (by rfl)
                go_simp
                exact ⟨rfl, Below.refl _ _⟩
              · injection ho with ho; subst ho
                refine .inl ⟨wanted_free rfl, ?_⟩
                have h189 : A.tmps[189]?.getD undef = .bool true := he 0 (by kernel_rfl)
                have h190 : A.tmps[190]?.getD undef = .bool true := he 1 (by kernel_rfl)
                go_simp
                exact ⟨rfl, Below.refl _ _⟩
              · injection ho with ho; subst ho
                refine .inl ⟨wanted_free rfl, ?_⟩
                have h191 : A.tmps[191]?.getD undef = .bool true := he 2 (by kernel_rfl)
                go_simp
                exact ⟨rfl, Below.refl _ _⟩
              · injection ho with ho; subst ho
                have hg : A.tmps[192]?.getD undef = .bool true := he 3 (by kernel_rfl)
                refine .inl ⟨wanted_yes (d := 192) rfl (by kernel_rfl) hg, ?_⟩
                have h23 : A.tmps[23]?.getD undef = .bool true := hk 23 (by rfl)
                go_simp
                exact ⟨rfl, Below.refl _ _⟩
              · injection ho with ho; subst ho
                have hg : A.tmps[192]?.getD undef = .bool true := he 3 (by kernel_rfl)
                refine .inl ⟨wanted_yes (d := 192) rfl (by kernel_rfl) hg, ?_⟩
                have h193 : A.tmps[193]?.getD undef = .bool true := he 4 (by kernel_rfl)
                go_simp
                exact ⟨rfl, Below.refl _ _⟩
              · injection ho with ho; subst ho
                have hg : A.tmps[192]?.getD undef = .bool true := he 3 (by kernel_rfl)
                refine .inl ⟨wanted_yes (d := 192) rfl (by kernel_rfl) hg, ?_⟩
                have h194 : A.tmps[194]?.getD undef = .bool false := he 5 (by kernel_rfl)
                go_simp
                exact ⟨rfl, Below.refl _ _⟩
              · injection ho with ho; subst ho
                have hg : A.tmps[195]?.getD undef = .bool false := he 6 (by kernel_rfl)
                refine .inl ⟨wanted_yes (d := 195) rfl (by kernel_rfl) hg, ?_⟩
                have h22 : A.tmps[22]?.getD undef = .pointer (some ⟨g22, 0, none⟩) := hk 22 (by rfl)
                have c0 := (S22c.out.below hW S22c.out.lt).cell 0
                have c1 := (S22c.out.below hW S22c.out.lt).cell 1
                have c2 := (S22c.out.below hW S22c.out.lt).cell 2
                have c3 := (S22c.out.below hW S22c.out.lt).cell 3
                have c4 := (S22c.out.below hW S22c.out.lt).cell 4
                have c5 := (S22c.out.below hW S22c.out.lt).cell 5
                have c6 := (S22c.out.below hW S22c.out.lt).cell 6
                have c7 := (S22c.out.below hW S22c.out.lt).cell 7
                have c8 := (S22c.out.below hW S22c.out.lt).cell 8
                have c9 := (S22c.out.below hW S22c.out.lt).cell 9
                have c10 := (S22c.out.below hW S22c.out.lt).cell 10
                have c11 := (S22c.out.below hW S22c.out.lt).cell 11
                have c12 := (S22c.out.below hW S22c.out.lt).cell 12
                go_simp
                exact ⟨rfl, Below.refl _ _⟩
              · injection ho with ho; subst ho
                have hg : A.tmps[195]?.getD undef = .bool false := he 6 (by kernel_rfl)
                refine .inl ⟨wanted_yes (d := 195) rfl (by kernel_rfl) hg, ?_⟩
                have h24 : A.tmps[24]?.getD undef = .pointer (some ⟨g24, 0, none⟩) := hk 24 (by rfl)
                have c0 := (S24.out.below hW S24.out.lt).cell 0
                have c1 := (S24.out.below hW S24.out.lt).cell 1
                have c2 := (S24.out.below hW S24.out.lt).cell 2
                have c3 := (S24.out.below hW S24.out.lt).cell 3
                have c4 := (S24.out.below hW S24.out.lt).cell 4
                have c5 := (S24.out.below hW S24.out.lt).cell 5
                have c6 := (S24.out.below hW S24.out.lt).cell 6
                have c7 := (S24.out.below hW S24.out.lt).cell 7
                have c8 := (S24.out.below hW S24.out.lt).cell 8
                have c9 := (S24.out.below hW S24.out.lt).cell 9
                have c10 := (S24.out.below hW S24.out.lt).cell 10
                have c11 := (S24.out.below hW S24.out.lt).cell 11
                have c12 := (S24.out.below hW S24.out.lt).cell 12
                have c13 := (S24.out.below hW S24.out.lt).cell 13
                go_simp
                exact ⟨rfl, Below.refl _ _⟩
              · injection ho with ho; subst ho
                have hg : A.tmps[195]?.getD undef = .bool false := he 6 (by kernel_rfl)
                refine .inl ⟨wanted_yes (d := 195) rfl (by kernel_rfl) hg, ?_⟩
                have h197 : A.tmps[197]?.getD undef = rtV x := he 8 (by kernel_rfl)
                go_simp
                refine Calls.mono (HCI.out W) ?_
                rintro e' w' ⟨rfl, hb⟩
                exact ⟨_, rfl, rfl, hb⟩
              · injection ho with ho; subst ho
                have hg : A.tmps[195]?.getD undef = .bool false := he 6 (by kernel_rfl)
                refine .inl ⟨wanted_yes (d := 195) rfl (by kernel_rfl) hg, ?_⟩
                have h196 : A.tmps[196]?.getD undef = itV x := he 7 (by kernel_rfl)
                have h198 : A.tmps[198]?.getD undef = itV x := he 9 (by kernel_rfl)
                have hq : (binOp .eql 57 (itV x) (itV x)).run Try.prog W = .ok (.bool true) W := by rw [eql_it x x (fit_may HXM.out) (fit_may HXM.out), same_self]
                have hgd : ∀ u v, (eqGuard .eql 57 u v (itV x) (itV x)).run Try.prog W = .ok () W := fun u v => guard_it .eql u v x x W
                generalize itV x = X at h196 h198 hq hgd
                go_simp
                exact ⟨rfl, Below.refl _ _⟩
              · injection ho with ho; subst ho
                have hg : A.tmps[192]?.getD undef = .bool true := he 3 (by kernel_rfl)
                refine .inl ⟨wanted_yes (d := 192) rfl (by kernel_rfl) hg, ?_⟩
                have h195 : A.tmps[195]?.getD undef = .bool false := he 6 (by kernel_rfl)
                have h199 : A.tmps[199]?.getD undef = .bool true := he 10 (by kernel_rfl)
                go_simp
                exact ⟨rfl, Below.refl _ _⟩
              · injection ho with ho; subst ho
                refine .inl ⟨wanted_free rfl, ?_⟩
                have h192 : A.tmps[192]?.getD undef = .bool true := he 3 (by kernel_rfl)
                have h200 : A.tmps[200]?.getD undef = .bool true := he 11 (by kernel_rfl)
                go_simp
                exact ⟨rfl, Below.refl _ _⟩
              · injection ho with ho; subst ho
                refine .inl ⟨wanted_free rfl, ?_⟩
                have h201 : A.tmps[201]?.getD undef = .bool true := he 12 (by kernel_rfl)
                go_simp
                exact ⟨rfl, Below.refl _ _⟩
              · injection ho with ho; subst ho
                have hg : A.tmps[202]?.getD undef = .bool true := he 13 (by kernel_rfl)
                refine .inl ⟨wanted_yes (d := 202) rfl (by kernel_rfl) hg, ?_⟩
                have h11 : A.tmps[11]?.getD undef = .pointer (some ⟨g11, 0, none⟩) := hk 11 (by rfl)
                have c0 := ((HW4.out.grown hW).at11).cell 0
                have c1 := ((HW4.out.grown hW).at11).cell 1
                have c2 := ((HW4.out.grown hW).at11).cell 2
                have c3 := ((HW4.out.grown hW).at11).cell 3
                have c4 := ((HW4.out.grown hW).at11).cell 4
                go_simp
                exact ⟨rfl, Below.refl _ _⟩
              · injection ho with ho; subst ho
                have hg : A.tmps[202]?.getD undef = .bool true := he 13 (by kernel_rfl)
                refine .inl ⟨wanted_yes (d := 202) rfl (by kernel_rfl) hg, ?_⟩
                have h9 : A.tmps[9]?.getD undef = .pointer (some ⟨w.heap.size, 0, none⟩) := hk 9 (by rfl)
                have c0 := (H0.out.1.below (HW4.out.grown hW).low H0.out.1.lt).cell 0
                have c1 := (H0.out.1.below (HW4.out.grown hW).low H0.out.1.lt).cell 1
                have c2 := (H0.out.1.below (HW4.out.grown hW).low H0.out.1.lt).cell 2
                have c3 := (H0.out.1.below (HW4.out.grown hW).low H0.out.1.lt).cell 3
                have c4 := (H0.out.1.below (HW4.out.grown hW).low H0.out.1.lt).cell 4
                have c5 := (H0.out.1.below (HW4.out.grown hW).low H0.out.1.lt).cell 5
                have c6 := (H0.out.1.below (HW4.out.grown hW).low H0.out.1.lt).cell 6
                have c7 := (H0.out.1.below (HW4.out.grown hW).low H0.out.1.lt).cell 7
                go_simp
                exact ⟨rfl, Below.refl _ _⟩
              · injection ho with ho; subst ho
                have hg : A.tmps[202]?.getD undef = .bool true := he 13 (by kernel_rfl)
                refine .inl ⟨wanted_yes (d := 202) rfl (by kernel_rfl) hg, ?_⟩
                have h204 : A.tmps[204]?.getD undef = Vew.vewV v := he 15 (by kernel_rfl)
                go_simp
                refine Calls.mono (view_any v W) ?_
                rintro e' w' ⟨rfl, hb⟩
                exact ⟨_, rfl, rfl, hb⟩
              · injection ho with ho; subst ho
                have hg : A.tmps[202]?.getD undef = .bool true := he 13 (by kernel_rfl)
                refine .inl ⟨wanted_yes (d := 202) rfl (by kernel_rfl) hg, ?_⟩
                have h203 : A.tmps[203]?.getD undef = .agg #[.slice (s.p 0) (s.m.row 0).length (s.c 0), .slice (s.p 1) (s.m.row 1).length (s.c 1), .slice (s.p 2) (s.m.row 2).length (s.c 2), .slice (s.p 3) (s.m.row 3).length (s.c 3), .int .i64 (s.m.n : Nat)] := he 14 (by kernel_rfl)
                have h205 : A.tmps[205]?.getD undef = Vew.vewV v := he 16 (by kernel_rfl)
                go_simp
                refine Calls.mono (HCL.out W (HW4.out.grown hW).keep.hold) ?_
                rintro e' w' ⟨rfl, hb⟩
                exact ⟨_, rfl, rfl, hb⟩
              · injection ho with ho; subst ho
                have hg : A.tmps[202]?.getD undef = .bool true := he 13 (by kernel_rfl)
                refine .inl ⟨wanted_yes (d := 202) rfl (by kernel_rfl) hg, ?_⟩
                have h13 : A.tmps[13]?.getD undef = .pointer (some ⟨g13, 0, none⟩) := hk 13 (by rfl)
                have c0 := ((HW4.out.grown hW).at13).cell 0
                have c1 := ((HW4.out.grown hW).at13).cell 1
                go_simp
                exact ⟨rfl, Below.refl _ _⟩
              · injection ho with ho; subst ho
                have hg : A.tmps[202]?.getD undef = .bool true := he 13 (by kernel_rfl)
                refine .inl ⟨wanted_yes (d := 202) rfl (by kernel_rfl) hg, ?_⟩
                have h9 : A.tmps[9]?.getD undef = .pointer (some ⟨w.heap.size, 0, none⟩) := hk 9 (by rfl)
                have c0 := (H0.out.1.below (HW4.out.grown hW).low H0.out.1.lt).cell 0
                have c1 := (H0.out.1.below (HW4.out.grown hW).low H0.out.1.lt).cell 1
                have c2 := (H0.out.1.below (HW4.out.grown hW).low H0.out.1.lt).cell 2
                have c3 := (H0.out.1.below (HW4.out.grown hW).low H0.out.1.lt).cell 3
                have c4 := (H0.out.1.below (HW4.out.grown hW).low H0.out.1.lt).cell 4
                have c5 := (H0.out.1.below (HW4.out.grown hW).low H0.out.1.lt).cell 5
                have c6 := (H0.out.1.below (HW4.out.grown hW).low H0.out.1.lt).cell 6
                have c7 := (H0.out.1.below (HW4.out.grown hW).low H0.out.1.lt).cell 7
                go_simp
                exact ⟨rfl, Below.refl _ _⟩
              · injection ho with ho; subst ho
                have hg : A.tmps[202]?.getD undef = .bool true := he 13 (by kernel_rfl)
                refine .inl ⟨wanted_yes (d := 202) rfl (by kernel_rfl) hg, ?_⟩
                have h207 : A.tmps[207]?.getD undef = .agg #[.int .i64 (s.dm.n : Nat), .slice s.q s.dm.l.length s.d] := he 18 (by kernel_rfl)
                have h208 : A.tmps[208]?.getD undef = .agg #[.int .i64 (v 0), .int .i64 (v 1), .int .i64 (v 2), .int .i64 (v 3), .int .i64 (v 4), .int .i64 (v 5), .int .i64 (v 6), .int .i64 (v 7)] := he 19 (by kernel_rfl)
                go_simp
                refine Calls.mono (HCLD.out W (HW4.out.grown hW).keep.holdD) ?_
                rintro e' w' ⟨rfl, hb⟩
                exact ⟨_, rfl, rfl, hb⟩
              · injection ho with ho; subst ho
                have hg : A.tmps[202]?.getD undef = .bool true := he 13 (by kernel_rfl)
                refine .inl ⟨wanted_yes (d := 202) rfl (by kernel_rfl) hg, ?_⟩
                have h206 : A.tmps[206]?.getD undef = .bool bc := he 17 (by kernel_rfl)
                have h209 : A.tmps[209]?.getD undef = .bool bc := he 20 (by kernel_rfl)
                go_simp
                exact ⟨rfl, Below.refl _ _⟩
              · injection ho with ho; subst ho
                refine .inl ⟨wanted_free rfl, ?_⟩
                have h202 : A.tmps[202]?.getD undef = .bool true := he 13 (by kernel_rfl)
                have h210 : A.tmps[210]?.getD undef = .bool true := he 21 (by kernel_rfl)
                go_simp
                exact ⟨rfl, Below.refl _ _⟩
              · injection ho with ho; subst ho
                refine .inl ⟨wanted_free rfl, ?_⟩
                have h211 : A.tmps[211]?.getD undef = .bool true := he 22 (by kernel_rfl)
                go_simp
                exact ⟨rfl, Below.refl _ _⟩
              · injection ho with ho; subst ho
                have hg : A.tmps[212]?.getD undef = .bool true := he 23 (by kernel_rfl)
                refine .inl ⟨wanted_yes (d := 212) rfl (by kernel_rfl) hg, ?_⟩
                go_simp
                refine Calls.mono (wakes_any W) ?_
                rintro e' w' ⟨rfl, hb⟩
                exact ⟨_, rfl, rfl, hb⟩
            · intro xs W hW hV
              have e212 : xs 23 = .bool true := hV 23 (by simp)
              have e213 : xs 24 = .bool true := hV 24 (by simp)
              simp only [List.length_cons, List.length_nil, Nat.zero_add, Nat.reduceAdd, List.drop_succ_cons, List.drop_zero, putL, Act.put, List.setIfInBounds_toArray, List.set_cons_zero, List.set_cons_succ, e212, e213]
              clear hV e212 e213
              have HW5 := Lib.hid (HW4.out.grown hW)
              clear hW
              go_wp2_with fail
              go_ret
              exact ⟨rfl, H0.out.2.1.trans (HW5.out.low.mono H0.out.2.1.size)⟩
end Go.Proofs.Ytokkcbhmmhmfmaa.Mmr
