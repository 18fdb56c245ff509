/- Proved here: troth/trothlaw04.ProgUnlike answers true for every two tests (tests whose parts may be, and that are unlike, are written unlike; alike ones alike), and leaves its arguments alone. Condition: the tables troth/prog.modeTexts, troth/num.texts, internal/strconv.uint64pow10, math/bits.deBruijn32tab and math/bits.deBruijn64tab hold what their packages' own initialisers lay, which the card ties to those texts. -/
import Derived.Test.YtpdpofoicdijlaaGreatDoorStmT
import Derived.Test.YtpdpofoicdijlaaGreatDoorStmZB
import Derived.Test.YtpdpofoicdijlaaGreatDoorStmO
import Derived.Test.YtpdpofoicdijlaaGreatDoorExprV
import Derived.Test.YtpdpofoicdijlaaGreatDoorExprP
namespace Go.Proofs.YtpdpofoicdijlaaGreatDoor.Prog
open Go.RowKit Go.Proofs.YtpdpofoicdijlaaGreatDoor.Mem Go.Proofs.YtpdpofoicdijlaaGreatDoor.Expr Go.Lib

/-- A row of marks whose rows of items are of whatever length. -/
def GRow (w : World) (p : Option Addr) (n : Nat) : Prop := ∀ k, k < n → ∃ g o pa na ca pb nb cb, p = some ⟨g, o, none⟩ ∧ w.cell? ⟨g, o + k * 6 + 4, none⟩ = some (.slice pa na ca) ∧ w.cell? ⟨g, o + k * 6 + 5, none⟩ = some (.slice pb nb cb) ∧ na ≤ 9223372036854775807 ∧ nb ≤ 9223372036854775807
/-- Threads of whatever lengths. -/
def GrV (w : World) (pt : Option Addr) (nt : Nat) : Prop := ∀ i, i < nt → ∃ g o p n c, pt = some ⟨g, o, none⟩ ∧ w.cell? ⟨g, o + i, none⟩ = some (.slice p n c) ∧ n ≤ 9223372036854775807 ∧ (n ≤ 60 → GRow w p n)
def rowSmall (w : World) (p : Option Addr) (n : Nat) : Prop := n ≤ 60 ∧ ∀ k g o, k < n → p = some ⟨g, o, none⟩ → (∀ pa na ca, w.cell? ⟨g, o + k * 6 + 4, none⟩ = some (.slice pa na ca) → na ≤ 30) ∧ ∀ pb nb cb, w.cell? ⟨g, o + k * 6 + 5, none⟩ = some (.slice pb nb cb) → nb ≤ 30
def thrSmall (w : World) (pt : Option Addr) (i : Nat) : Prop := ∀ g o p n c, pt = some ⟨g, o, none⟩ → w.cell? ⟨g, o + i, none⟩ = some (.slice p n c) → rowSmall w p n
structure GSmall (w : World) (ni : Nat) (pt : Option Addr) (nt na : Nat) : Prop where
  init : ni ≤ 10
  threads : nt ≤ 8
  ask : na ≤ 30
  each : ∀ i, i < nt → thrSmall w pt i
theorem cell_back {w W : World} {g o : Nat} {u v : Value} (hb : Below w.heap.size w W) (h : w.cell? ⟨g, o, none⟩ = some u) (hv : w.cell? ⟨g, o, none⟩ = some v) : W.cell? ⟨g, o, none⟩ = some u ∧ u = v :=
  ⟨cell_below (U := any_) hb g trivial _ _ h, by rw [h] at hv; exact Option.some.inj hv⟩
set_option maxRecDepth 100000 in
set_option maxHeartbeats 2000000 in
theorem great_raw (pi : Option Addr) (ni ci : Nat) (pt : Option Addr) (nt ct : Nat) (al : Bool) (pa : Option Addr) (na ca : Nat) (w : World) (bi : ni ≤ 9223372036854775807) (bt : nt ≤ 9223372036854775807) (ba : na ≤ 9223372036854775807) (hG : GrV w pt nt) :
    Calls Tryz.prog 6 #[.agg #[.slice pi ni ci, .slice pt nt ct, .bool al, .slice pa na ca]] w (Told0 (GSmall w ni pt nt na) w) := by
  have hb : Below w.heap.size w (w.alloc (.cells #[.slice pi ni ci, .slice pt nt ct, .bool al, .slice pa na ca] 26)) := (Below.refl _ _).alloc (Nat.le_refl _) _
  have HG := Lib.hid hG
  have HB0 := Lib.hid hb
  have HBX := Lib.hid (Sits.new w 26 #[.slice pi ni ci, .slice pt nt ct, .bool al, .slice pa na ca])
  clear hG hb
  by_cases h1 : 8 < nt
  · have k1 : (8 : Int) < (nt : Int) := by omega
    clear h1
    go_enter Tryz.func6, Tryz.ntmps6
    go_wp2_with fail
    go_ret
    exact ⟨true, rfl, by simp, HB0.out⟩
  have k1 : ¬ (8 : Int) < (nt : Int) := by omega
  by_cases h2 : 10 < ni
  · have k2 : (10 : Int) < (ni : Int) := by omega
    clear h1 h2
    go_enter Tryz.func6, Tryz.ntmps6
    go_wp2_with fail
    go_ret
    exact ⟨true, rfl, by simp, HB0.out⟩
  have k2 : ¬ (10 : Int) < (ni : Int) := by omega
  by_cases h3 : 30 < na
  · have k3 : (30 : Int) < (na : Int) := by omega
    clear h1 h2 h3
    go_enter Tryz.func6, Tryz.ntmps6
    go_wp2_with fail
    go_ret
    exact ⟨true, rfl, by simp, HB0.out⟩
  have k3 : ¬ (30 : Int) < (na : Int) := by omega
  have HN := Lib.hid (show nt ≤ 8 ∧ ni ≤ 10 ∧ na ≤ 30 by omega)
  have j1 : (nt : Int) ≤ 8 := by omega
  clear h1 h2 h3 bi bt ba
  go_enter Tryz.func6, Tryz.ntmps6
  go_wp2_with fail
  generalize w.alloc (.cells #[.slice pi ni ci, .slice pt nt ct, .bool al, .slice pa na ca] 26) = w1 at HB0 HBX ⊢
  generalize hgb : w.heap.size = gb at HBX ⊢
  have HGB := Lib.hid hgb
  clear hgb
  go_loopg [3] nt (fun gg v3 wx => ∃ j, j ≤ nt ∧ gg = nt - j ∧ v3 = .int .i64 (j : Nat) ∧ Hid (Below w1.heap.size w1 wx) ∧ Hid (∀ i, i < j → thrSmall w pt i))
  case atStart => exact ⟨0, by omega, by omega, rfl, Lib.hid (Below.refl _ _), Lib.hid fun i h => by omega⟩
  case round =>
    obtain ⟨j, hj, rfl, rfl, HBj, HF⟩ := hrel
    have HLW := Lib.hid (HB0.out.trans (HBj.out.mono HB0.out.size))
    have hbx := HBX.out.below HBj.out HBX.out.lt
    have c1 : wr.cell? ⟨gb, 1, none⟩ = some (.slice pt nt ct) := hbx.cell 1
    have lb := hbx.lt
    clear hbx
    by_cases hlt : j < nt
    · obtain ⟨g, o, p, n, c, rfl, hc0, hn, hr⟩ := HG.out j hlt
      have hc : wr.cell? ⟨g, o + j, none⟩ = some (.slice p n c) := cell_below (U := any_) HLW.out g trivial _ _ hc0
      have HC0 := Lib.hid hc0
      have HR := Lib.hid hr
      have lg := World.block_lt_of_cell? _ _ hc
      have m1 : (j : Int) < (nt : Int) := by omega
      have m2 : (0 : Int) ≤ (j : Int) := by omega
      have m3 : (n : Int) ≤ 9223372036854775807 := by omega
      have HJ := Lib.hid hlt
      clear hc0 hr hn hlt hj
      by_cases h60 : 60 < n
      · have n1 : (60 : Int) < (n : Int) := by omega
        clear h60
        go_wp2_with fail
        go_ret
        exact ⟨true, rfl, by simp, HLW.out⟩
      have n1 : ¬ (60 : Int) < (n : Int) := by omega
      have H60 := Lib.hid (show n ≤ 60 by omega)
      have HRW := Lib.hid (HR.out (by omega))
      have m4 : (n : Int) ≤ 60 := by omega
      clear h60 m3
      go_wp2_with fail
      generalize wr = w2 at HBj hc ⊢
      have HCC := Lib.hid hc
      clear hc c1 lb lg
      go_loopg [5] n (fun gg v5 wx => ∃ k, k ≤ n ∧ gg = n - k ∧ v5 = .int .i64 (k : Nat) ∧ Hid (Below w1.heap.size w1 wx) ∧ Hid (∀ i g o, i < k → p = some ⟨g, o, none⟩ → (∀ pa na ca, w.cell? ⟨g, o + i * 6 + 4, none⟩ = some (.slice pa na ca) → na ≤ 30) ∧ ∀ pb nb cb, w.cell? ⟨g, o + i * 6 + 5, none⟩ = some (.slice pb nb cb) → nb ≤ 30))
      case atStart => exact ⟨0, by omega, by omega, rfl, HBj, Lib.hid fun i g o h => by omega⟩
      case round =>
        obtain ⟨k, hk, rfl, rfl, HBk, HG2⟩ := hrel
        have HLK := Lib.hid (HB0.out.trans (HBk.out.mono HB0.out.size))
        have q1 : (k : Int) ≤ 1000000 := by omega
        have q0 : (0 : Int) ≤ (k : Int) := by omega
        by_cases hkl : k < n
        · obtain ⟨g5, o5, pa', na', ca', pb', nb', cb', rfl, e4, e5, l4, l5⟩ := HRW.out k hkl
          have d4 : wr.cell? ⟨g5, o5 + k * 6 + 4, none⟩ = some (.slice pa' na' ca') := cell_below (U := any_) HLK.out g5 trivial _ _ e4
          have d5 : wr.cell? ⟨g5, o5 + k * 6 + 5, none⟩ = some (.slice pb' nb' cb') := cell_below (U := any_) HLK.out g5 trivial _ _ e5
          have HE4 := Lib.hid e4
          have HE5 := Lib.hid e5
          have lg := World.block_lt_of_cell? _ _ d4
          have p1 : (k : Int) < (n : Int) := by omega
          have HK := Lib.hid hkl
          clear e4 e5 hkl hk
          by_cases ha : 30 < na'
          · have r1 : (30 : Int) < (na' : Int) := by omega
            clear ha
            go_wp2_with fail
            go_ret
            exact ⟨true, rfl, by simp, HLK.out⟩
          have r1 : ¬ (30 : Int) < (na' : Int) := by omega
          by_cases hb : 30 < nb'
          · have r2 : (30 : Int) < (nb' : Int) := by omega
            clear ha hb
            go_wp2_with fail
            go_ret
            exact ⟨true, rfl, by simp, HLK.out⟩
          have r2 : ¬ (30 : Int) < (nb' : Int) := by omega
          have HSL := Lib.hid (show na' ≤ 30 ∧ nb' ≤ 30 from ⟨by omega, by omega⟩)
          clear ha hb l4 l5
          go_wp2_with fail
          go_roundg (n - (k + 1))
          case measure => have := HK.out; omega
          case rel => exact ⟨k + 1, HK.out, rfl, by go_num, HBk, Lib.hid fun i g o hi hp => by
            by_cases e : i < k
            · exact HG2.out i g o e hp
            · obtain rfl : i = k := by omega
              injection hp with hp
              injection hp with hp1 hp2
              subst hp1 hp2
              exact ⟨fun pa na ca h => by rw [HE4.out] at h; injection h with h; injection h with _ h _; rw [← h]; exact HSL.out.1, fun pb nb cb h => by rw [HE5.out] at h; injection h with h; injection h with _ h _; rw [← h]; exact HSL.out.2⟩⟩
        · obtain rfl : k = n := by omega
          have p1 : ¬ ((k : Int) < (k : Int)) := by omega
          clear hkl hk
          go_wp2_with fail
          go_roundg (nt - (j + 1))
          case measure => have := HJ.out; omega
          case rel => exact ⟨j + 1, HJ.out, rfl, by go_num, HBk, Lib.hid fun i hi => by
            by_cases e : i < j
            · exact HF.out i e
            · obtain rfl : i = j := by omega
              intro g' o' p' n' c' hp hcell
              injection hp with hp
              injection hp with hp1 hp2
              subst hp1 hp2
              rw [HC0.out] at hcell
              injection hcell with hcell
              injection hcell with h1 h2 _
              subst h1 h2
              exact ⟨H60.out, fun i g o hi hp => HG2.out i g o hi hp⟩⟩
    · obtain rfl : j = nt := by omega
      have m1 : ¬ ((j : Int) < (j : Int)) := by omega
      clear hlt hj
      go_wp2_with fail
      go_ret
      exact ⟨false, rfl, fun _ => ⟨HN.out.2.1, HN.out.1, HN.out.2.2, HF.out⟩, HLW.out⟩
/-- An argument: what it reads as, if it isn't too great. -/
structure ArgV (w : World) (pi : Option Addr) (ni ci : Nat) (pt : Option Addr) (nt ct : Nat) (al : Bool) (pa : Option Addr) (na ca : Nat) : Prop where
  bi : ni ≤ 9223372036854775807
  bt : nt ≤ 9223372036854775807
  ba : na ≤ 9223372036854775807
  raw : GrV w pt nt
  read : GSmall w ni pt nt na → ∃ t : Rt, t.all = al ∧ RtV w t (.slice pi ni ci) (.slice pt nt ct) (.slice pa na ca) ∧ t.meek ∧ (∀ a ∈ t.ask, a.bd) ∧ (∀ x ∈ t.init, x.1 < 256 ∧ x.2 < 18446744073709551616) ∧ ∀ l ∈ t.threads, ∀ x ∈ l, x.bd
end Go.Proofs.YtpdpofoicdijlaaGreatDoor.Prog
namespace Go.Proofs.YtpdpofoicdijlaaGreatDoor.Prog
open Go.RowKit Go.Proofs.YtpdpofoicdijlaaGreatDoor.Mem Go.Proofs.YtpdpofoicdijlaaGreatDoor.Expr Go.Proofs.YtpdpofoicdijlaaGreatDoor.Flow Go.Lib

theorem tsOf_good {t : Rt} (hm : t.meek) (hp : (tsOf t).proper) (hb : t.bd) : (tsOf t).good ∧ (tsOf t).small := by
  have h1 : (t.threads.map blkOf).length ≤ 1000 := by rw [List.length_map]; have := hm.threads; omega
  have hf : ∀ b ∈ t.threads.map blkOf, b.fine ∧ b.size ≤ 10000 := fun b hb' => by
    obtain ⟨l, hl, rfl⟩ := List.mem_map.1 hb'
    obtain ⟨i, hi⟩ := List.getElem?_of_mem hl
    have := (hm.each i l hi).1
    exact ⟨(blkOf_sp l).fine (hb.each l hl), by have := (endOf_le (l := l) (by omega)).2; omega⟩
  exact ⟨⟨by have := hm.init; show t.init.length ≤ 1000; omega, h1, fun b hb' => ⟨(hf b hb').1, over_deep b 8 (hp.threads b hb').1 (hp.threads b hb').2⟩, hp.ask⟩,
    ⟨by have := hm.init; show t.init.length ≤ 1000; omega, hb.init, h1, hf, hp.ask⟩⟩
theorem holds_len {U : Nat → Prop} {w : World} : ∀ {b : Blk} {cs : List Value}, Holds U w b cs → cs.length = 8 * b.len := by
  intro b
  induction b with
  | nil => intro cs h; rw [show cs = [] from h]; rfl
  | cons m t e r _ _ ih =>
    intro cs h
    obtain ⟨av, bv, tv, ev, ct, ce, cr, rfl, _, _, _, _, _, _, h8⟩ := h
    rw [List.length_append, ih h8]; simp only [stCells, List.length_cons, List.length_nil, Blk.len]; omega
theorem rowAt_same {U X : Nat → Prop} {w : World} {v : Value} {n : Nat} {cs cs' : List Value} (h : RowAt U w v n cs) (h' : RowAt X w v n cs') (hl : cs.length = cs'.length) (h0 : n = 0 → cs.length = 0) : cs = cs' := by
  rcases h with ⟨hn, _⟩ | ⟨g, o, cap, hv, _, _, hc⟩
  · have e1 := List.length_eq_zero_iff.1 (h0 hn)
    rw [e1] at hl ⊢
    exact (List.length_eq_zero_iff.1 hl.symm).symm
  · rcases h' with ⟨hn, _⟩ | ⟨g', o', cap', hv', _, _, hc'⟩
    · have e1 := List.length_eq_zero_iff.1 (h0 hn)
      rw [e1] at hl ⊢
      exact (List.length_eq_zero_iff.1 hl.symm).symm
    · rw [hv] at hv'
      injection hv' with e1 _ _
      injection e1 with e1
      injection e1 with e1 e2
      subst e1 e2
      apply List.ext_getElem? fun i => ?_
      cases hi : cs[i]? with
      | none => rw [List.getElem?_eq_none (by have := List.getElem?_eq_none_iff.1 hi; omega)]
      | some u =>
        have hlt := (List.getElem?_eq_some_iff.1 hi).1
        have hx : cs'[i]? = some (cs'[i]'(by omega)) := List.getElem?_eq_getElem _
        have a := hc i u hi
        have b := hc' i _ hx
        rw [a] at b
        rw [hx, ← Option.some.inj b]
theorem RowAt.and {U X : Nat → Prop} {w : World} {v : Value} {n : Nat} {cs cs' : List Value} (h : RowAt U w v n cs) (h' : RowAt X w v n cs') : RowAt (fun g => U g ∧ X g) w v n cs := by
  rcases h with h | ⟨g, o, cap, hv, hg, hn, hc⟩
  · exact .inl h
  · rcases h' with ⟨h0, p, c, hv'⟩ | ⟨g', o', cap', hv', hg', _, _⟩
    · exact .inl ⟨h0, p, c, hv'⟩
    · rw [hv] at hv'
      injection hv' with e1 _ _
      injection e1 with e1
      injection e1 with e1 e2
      subst e1
      exact .inr ⟨g, o, cap, hv, ⟨hg, hg'⟩, hn, hc⟩
theorem Holds.and {U X : Nat → Prop} {w : World} : ∀ {b : Blk} {cs : List Value}, Holds U w b cs → Holds X w b cs → Holds (fun g => U g ∧ X g) w b cs := by
  intro b
  induction b with
  | nil => intro cs h _; exact h
  | cons m t e r iht ihe ihr =>
    intro cs h h'
    obtain ⟨av, bv, tv, ev, ct, ce, cr, rfl, h2, h3, h4, h5, h6, h7, h8⟩ := h
    obtain ⟨av', bv', tv', ev', ct', ce', cr', e1, h2', h3', h4', h5', h6', h7', h8'⟩ := h'
    simp only [stCells, List.cons_append, List.nil_append, List.cons.injEq, true_and] at e1
    obtain ⟨rfl, rfl, rfl, rfl, rfl⟩ := e1
    obtain rfl := rowAt_same h4 h4' (by rw [holds_len h5, holds_len h5']) (fun h0 => by rw [holds_len h5, h0])
    obtain rfl := rowAt_same h6 h6' (by rw [holds_len h7, holds_len h7']) (fun h0 => by rw [holds_len h7, h0])
    exact ⟨_, _, _, _, ct, ce, cr, rfl, h2, h3, h4.and h4', iht h5 h5', h6.and h6', ihe h7 h7', ihr h8 h8'⟩
theorem Stand.and {U X : Nat → Prop} {w : World} {b : Blk} {v : Value} (h : Stand U w b v) (h' : Stand X w b v) : Stand (fun g => U g ∧ X g) w b v := by
  obtain ⟨cs, h1, h2⟩ := h
  obtain ⟨cs', h1', h2'⟩ := h'
  obtain rfl := rowAt_same h1 h1' (by rw [holds_len h2, holds_len h2']) (fun h0 => by rw [holds_len h2, h0])
  exact ⟨cs, h1.and h1', h2.and h2'⟩
theorem TestU.and {U X : Nat → Prop} {w : World} {t : Ts} {vi vt va : Value} (h : TestU U w t vi vt va) (h' : TestU X w t vi vt va) : TestU (fun g => U g ∧ X g) w t vi vt va := by
  obtain ⟨h1, ⟨vs, h2, h3, h4⟩, h5⟩ := h
  obtain ⟨h1', ⟨vs', h2', h3', h4'⟩, _⟩ := h'
  obtain rfl := rowAt_same h2 h2' (by rw [h3, h3']) (fun h0 => by rw [h3, h0])
  exact ⟨h1.and h1', ⟨vs, h2.and h2', h3, fun i b u hb hu => (h4 i b u hb hu).and (h4' i b u hb hu)⟩, h5⟩
def outU (U : Nat → Prop) (al : Bool) (t : Ts) (u : Value) (W : World) : Prop := ∃ vi vt va, u = testAgg vi vt al va ∧ TestU U W t vi vt va
def outV (al : Bool) (t : Ts) : Value → World → Prop := fun u W => outU any_ al t u W
def ptrOf (g : Nat) : Value := .pointer (some ⟨g, 0, none⟩)
/-- Which results lie apart. -/
def sepE (al al' : Bool) (s t : Ts) (i j : Nat) (u v : Value) (W : World) : Prop :=
  (i = 1 → (j = 4 ∨ j = 5) → ∀ g, v = ptrOf g → outU (fun x => x ≠ g) al s u W) ∧ (i = 3 → (j = 4 ∨ j = 5) → ∀ g, v = ptrOf g → outU (fun x => x ≠ g) al' t u W) ∧ (i = 4 → j = 5 → u ≠ v)
def bothE (al al' : Bool) (s t : Ts) (i j : Nat) (u v : Value) (W : World) : Prop := sepE al al' s t i j u v W ∧ sepE al al' s t j i v u W
theorem outU.below {U : Nat → Prop} {al : Bool} {t : Ts} {u : Value} {W W' : World} (h : outU U al t u W) (hb : Below W.heap.size W W') : outU U al t u W' := by
  obtain ⟨vi, vt, va, e, h⟩ := h
  exact ⟨vi, vt, va, e, h.below hb⟩
theorem outU.wider {U X : Nat → Prop} {al : Bool} {t : Ts} {u : Value} {W : World} (h : outU U al t u W) (hx : ∀ g, U g → X g) : outU X al t u W := by
  obtain ⟨vi, vt, va, e, h⟩ := h
  exact ⟨vi, vt, va, e, h.wider hx⟩
theorem outU.inside {U : Nat → Prop} {al : Bool} {t : Ts} {u : Value} {W : World} (h : outU U al t u W) : outU (fun g => U g ∧ g < W.heap.size) al t u W := by
  obtain ⟨vi, vt, va, e, h⟩ := h
  exact ⟨vi, vt, va, e, h.inside⟩
theorem outU.and {U X : Nat → Prop} {al : Bool} {t : Ts} {u : Value} {W : World} (h : outU U al t u W) (h' : outU X al t u W) : outU (fun g => U g ∧ X g) al t u W := by
  obtain ⟨vi, vt, va, e, h⟩ := h
  obtain ⟨vi', vt', va', e', h'⟩ := h'
  rw [e] at e'
  simp only [testAgg, Value.agg.injEq, Array.mk.injEq, List.cons.injEq, and_true, true_and] at e'
  obtain ⟨rfl, rfl, rfl⟩ := e'
  exact ⟨vi, vt, va, e, h.and h'⟩
theorem outV_monoR (al : Bool) (t : Ts) : MonoR (fun w w' => Below w.heap.size w w') (outV al t) := fun _ _ _ h hb => h.below hb
theorem tboxV_monoR (B : Nat) : MonoR (fun w w' => Below w.heap.size w w') (tboxV B) := fun _ _ _ ⟨g, hu, hB, hs⟩ hb => ⟨g, hu, hB, hs.below hb hs.lt⟩
theorem sepE.mono {al al' : Bool} {s t : Ts} {i j : Nat} {u v : Value} {W W' : World} (h : sepE al al' s t i j u v W) (hb : Below W.heap.size W W') : sepE al al' s t i j u v W' :=
  ⟨fun h1 h2 g hg => (h.1 h1 h2 g hg).below hb, fun h1 h2 g hg => (h.2.1 h1 h2 g hg).below hb, h.2.2⟩
/-- What is known of both tests, once they are not too great. -/
structure Both (w0 : World) (ga gb : Nat) (ca cb : Array Value) (s t : Rt) (vi vt va vi' vt' va' : Value) (W : World) : Prop where
  a : Sits W ga 26 ca
  b : Sits W gb 26 cb
  s : RtV W s vi vt va
  t : RtV W t vi' vt' va'
  low : Below w0.heap.size w0 W
theorem Both.below {w0 : World} {ga gb : Nat} {ca cb : Array Value} {s t : Rt} {vi vt va vi' vt' va' : Value} {W W' : World} (h : Both w0 ga gb ca cb s t vi vt va vi' vt' va' W) (hb : Below W.heap.size W W') : Both w0 ga gb ca cb s t vi vt va vi' vt' va' W' :=
  ⟨h.a.below hb h.a.lt, h.b.below hb h.b.lt, h.s.below hb, h.t.below hb, h.low.trans (hb.mono h.low.size)⟩
theorem GrV.below {w W : World} {p : Option Addr} {n : Nat} (h : GrV w p n) (hb : Below w.heap.size w W) : GrV W p n := fun i hi => by
  obtain ⟨g, o, q, m, c, h1, h2, h3, h4⟩ := h i hi
  refine ⟨g, o, q, m, c, h1, cell_below (U := any_) hb g trivial _ _ h2, h3, fun h60 k hk => ?_⟩
  obtain ⟨g', o', pa, na, ca, pb, nb, cb, k1, k2, k3, k4, k5⟩ := h4 h60 k hk
  exact ⟨g', o', pa, na, ca, pb, nb, cb, k1, cell_below (U := any_) hb g' trivial _ _ k2, cell_below (U := any_) hb g' trivial _ _ k3, k4, k5⟩
theorem GSmall.back {w W : World} {ni : Nat} {pt : Option Addr} {nt na : Nat} (h : GSmall W ni pt nt na) (hb : Below w.heap.size w W) : GSmall w ni pt nt na :=
  ⟨h.init, h.threads, h.ask, fun i hi g o p n c hp hc => by
    have h1 := h.each i hi g o p n c hp (cell_below (U := any_) hb g trivial _ _ hc)
    exact ⟨h1.1, fun k g' o' hk hp' => ⟨fun pa na ca h => (h1.2 k g' o' hk hp').1 pa na ca (cell_below (U := any_) hb g' trivial _ _ h), fun pb nb cb h => (h1.2 k g' o' hk hp').2 pb nb cb (cell_below (U := any_) hb g' trivial _ _ h)⟩⟩⟩
/-- Both boxes, whatever they hold. -/
structure Bxs (w0 : World) (ga gb : Nat) (ca cb : Array Value) (W : World) : Prop where
  a : Sits W ga 26 ca
  b : Sits W gb 26 cb
  low : Below w0.heap.size w0 W
theorem Bxs.below {w0 : World} {ga gb : Nat} {ca cb : Array Value} {W W' : World} (h : Bxs w0 ga gb ca cb W) (hb : Below W.heap.size W W') : Bxs w0 ga gb ca cb W' :=
  ⟨h.a.below hb h.a.lt, h.b.below hb h.b.lt, h.low.trans (hb.mono h.low.size)⟩
def unlikeW (w : World) (vi vt va vi' vt' va' : Value) (al al' : Bool) : World := (w.alloc (.cells #[vi, vt, .bool al, va] 26)).alloc (.cells #[vi', vt', .bool al', va'] 26)
set_option maxRecDepth 100000 in
set_option maxHeartbeats 4000000 in
theorem unlike_any (pi : Option Addr) (ni ci : Nat) (pt : Option Addr) (nt ct : Nat) (al : Bool) (pa : Option Addr) (na ca : Nat) (pi' : Option Addr) (ni' ci' : Nat) (pt' : Option Addr) (nt' ct' : Nat) (al' : Bool) (pa' : Option Addr) (na' ca' : Nat) (w : World)
    (hS : ArgV w pi ni ci pt nt ct al pa na ca) (hT : ArgV w pi' ni' ci' pt' nt' ct' al' pa' na' ca') (hX : All w) :
    Calls Tryz.prog 3 #[.agg #[.slice pi ni ci, .slice pt nt ct, .bool al, .slice pa na ca], .agg #[.slice pi' ni' ci', .slice pt' nt' ct', .bool al', .slice pa' na' ca']] w fun e w' => Made (.returned (.bool true)) w e w' := by
  have hlow : Below w.heap.size w (unlikeW w (.slice pi ni ci) (.slice pt nt ct) (.slice pa na ca) (.slice pi' ni' ci') (.slice pt' nt' ct') (.slice pa' na' ca') al al') := ((Below.refl _ _).alloc (Nat.le_refl _) _).alloc (by simp) _
  have hbx : Bxs w w.heap.size (w.heap.size + 1) #[.slice pi ni ci, .slice pt nt ct, .bool al, .slice pa na ca] #[.slice pi' ni' ci', .slice pt' nt' ct', .bool al', .slice pa' na' ca'] (unlikeW w (.slice pi ni ci) (.slice pt nt ct) (.slice pa na ca) (.slice pi' ni' ci') (.slice pt' nt' ct') (.slice pa' na' ca') al al') :=
    ⟨(Sits.new _ _ _).alloc _, Sits.made (by simp) _ _, hlow⟩
  have HB := Lib.hid hbx
  have HWK := Lib.hid (fun W (h : Below w.heap.size w W) => woken_any W (hX.below h))
  have HS := Lib.hid hS
  have HT := Lib.hid hT
  have HX := Lib.hid hX
  clear hlow hbx hS hT hX
  go_enter Tryz.func3, Tryz.ntmps3
  go_wp2_with fail
  change Calls _ _ _ (unlikeW w (.slice pi ni ci) (.slice pt nt ct) (.slice pa na ca) (.slice pi' ni' ci') (.slice pt' nt' ct') (.slice pa' na' ca') al al') _
  generalize unlikeW w (.slice pi ni ci) (.slice pt nt ct) (.slice pa na ca) (.slice pi' ni' ci') (.slice pt' nt' ct') (.slice pa' na' ca') al al' = w0 at HB ⊢
  generalize hgb : w.heap.size + 1 = gb at HB ⊢
  generalize hga : w.heap.size = ga at HB ⊢
  have HGA := Lib.hid hga
  clear hga hgb
  refine (great_raw pi ni ci pt nt ct al pa na ca w0 HS.out.bi HS.out.bt HS.out.ba (HS.out.raw.below HB.out.low)).mono ?_
  rintro e w1 ⟨z, rfl, hz, hb⟩
  have HB1 := Lib.hid (HB.out.below hb)
  have HZ := Lib.hid hz
  clear hb hz
  have cells1 := HB1.out
  have a0 := cells1.a.cell 0
  have a1 := cells1.a.cell 1
  have a2 := cells1.a.cell 2
  have a3 := cells1.a.cell 3
  have b0 := cells1.b.cell 0
  have b1 := cells1.b.cell 1
  have b2 := cells1.b.cell 2
  have b3 := cells1.b.cell 3
  have la := cells1.a.lt
  have lb := cells1.b.lt
  clear cells1
  cases z
  case true =>
    go_wp2_with fail
    refine (HWK.out _ HB1.out.low).mono ?_
    rintro e w' ⟨rfl, hb⟩
    have HE := Lib.hid (HB1.out.low.trans (hb.mono HB1.out.low.size))
    clear hb
    go_wp2_with fail
    go_ret
    exact ⟨rfl, HE.out⟩
  have HG1 := Lib.hid ((HZ.out rfl).back HB.out.low)
  clear HZ
  go_wp2_with fail
  clear a0 a1 a2 a3 b0 b1 b2 b3 la lb
  refine (great_raw pi' ni' ci' pt' nt' ct' al' pa' na' ca' w1 HT.out.bi HT.out.bt HT.out.ba (HT.out.raw.below HB1.out.low)).mono ?_
  rintro e w2 ⟨z, rfl, hz, hb⟩
  have HB2 := Lib.hid (HB1.out.below hb)
  have HZ := Lib.hid hz
  clear hb hz
  have cells2 := HB2.out
  have a0 := cells2.a.cell 0
  have a1 := cells2.a.cell 1
  have a2 := cells2.a.cell 2
  have a3 := cells2.a.cell 3
  have b0 := cells2.b.cell 0
  have b1 := cells2.b.cell 1
  have b2 := cells2.b.cell 2
  have b3 := cells2.b.cell 3
  have la := cells2.a.lt
  have lb := cells2.b.lt
  clear cells2
  cases z
  case true =>
    go_wp2_with fail
    refine (HWK.out _ HB2.out.low).mono ?_
    rintro e w' ⟨rfl, hb⟩
    have HE := Lib.hid (HB2.out.low.trans (hb.mono HB2.out.low.size))
    clear hb
    go_wp2_with fail
    go_ret
    exact ⟨rfl, HE.out⟩
  have HG2 := Lib.hid ((HZ.out rfl).back HB1.out.low)
  clear HZ
  obtain ⟨s, es, vs, ms, bs1, bs2, bs3⟩ := HS.out.read HG1.out
  obtain ⟨t, et, vt, mt, bt1, bt2, bt3⟩ := HT.out.read HG2.out
  have HVS := Lib.hid vs
  have HVT := Lib.hid vt
  have HMS := Lib.hid ms
  have HMT := Lib.hid mt
  have HDS := Lib.hid (show s.bd from ⟨bs1, bs2, bs3⟩)
  have HDT := Lib.hid (show t.bd from ⟨bt1, bt2, bt3⟩)
  clear vs vt ms mt bs1 bs2 bs3 bt1 bt2 bt3 HG1 HG2 HS HT
  subst es et
  go_wp2_with fail
  clear a0 a1 a2 a3 b0 b1 b2 b3 la lb
  refine (shallow_any s (.slice pi ni ci) (.slice pt nt ct) (.slice pa na ca) w2 (HVS.out.below HB2.out.low)).mono ?_
  rintro e w3 ⟨z, rfl, hz, hb⟩
  have HB3 := Lib.hid (HB2.out.below hb)
  have HZ := Lib.hid hz
  clear hb hz
  have cells3 := HB3.out
  have a0 := cells3.a.cell 0
  have a1 := cells3.a.cell 1
  have a2 := cells3.a.cell 2
  have a3 := cells3.a.cell 3
  have b0 := cells3.b.cell 0
  have b1 := cells3.b.cell 1
  have b2 := cells3.b.cell 2
  have b3 := cells3.b.cell 3
  have la := cells3.a.lt
  have lb := cells3.b.lt
  clear cells3
  cases z
  case false =>
    go_wp2_with fail
    refine (HWK.out _ HB3.out.low).mono ?_
    rintro e w' ⟨rfl, hb⟩
    have HE := Lib.hid (HB3.out.low.trans (hb.mono HB3.out.low.size))
    clear hb
    go_wp2_with fail
    go_ret
    exact ⟨rfl, HE.out⟩
  have HF1 := Lib.hid (HZ.out rfl)
  clear HZ
  go_wp2_with fail
  clear a0 a1 a2 a3 b0 b1 b2 b3 la lb
  refine (shallow_any t (.slice pi' ni' ci') (.slice pt' nt' ct') (.slice pa' na' ca') w3 (HVT.out.below HB3.out.low)).mono ?_
  rintro e w4 ⟨z, rfl, hz, hb⟩
  have HB4 := Lib.hid (HB3.out.below hb)
  have HZ := Lib.hid hz
  clear hb hz
  have cells4 := HB4.out
  have a0 := cells4.a.cell 0
  have a1 := cells4.a.cell 1
  have a2 := cells4.a.cell 2
  have a3 := cells4.a.cell 3
  have b0 := cells4.b.cell 0
  have b1 := cells4.b.cell 1
  have b2 := cells4.b.cell 2
  have b3 := cells4.b.cell 3
  have la := cells4.a.lt
  have lb := cells4.b.lt
  clear cells4
  cases z
  case false =>
    go_wp2_with fail
    refine (HWK.out _ HB4.out.low).mono ?_
    rintro e w' ⟨rfl, hb⟩
    have HE := Lib.hid (HB4.out.low.trans (hb.mono HB4.out.low.size))
    clear hb
    go_wp2_with fail
    go_ret
    exact ⟨rfl, HE.out⟩
  have HF2 := Lib.hid (HZ.out rfl)
  clear HZ
  go_wp2_with fail
  clear a0 a1 a2 a3 b0 b1 b2 b3 la lb
  refine (Proper_any s HDS.out HMS.out (.slice pi ni ci) (.slice pt nt ct) (.slice pa na ca) w4 (HVS.out.below HB4.out.low)).mono ?_
  rintro e w5 ⟨z, rfl, hz, hb⟩
  have HB5 := Lib.hid (HB4.out.below hb)
  have HZ := Lib.hid hz
  clear hb hz
  have cells5 := HB5.out
  have a0 := cells5.a.cell 0
  have a1 := cells5.a.cell 1
  have a2 := cells5.a.cell 2
  have a3 := cells5.a.cell 3
  have b0 := cells5.b.cell 0
  have b1 := cells5.b.cell 1
  have b2 := cells5.b.cell 2
  have b3 := cells5.b.cell 3
  have la := cells5.a.lt
  have lb := cells5.b.lt
  clear cells5
  cases z
  case false =>
    go_wp2_with fail
    refine (HWK.out _ HB5.out.low).mono ?_
    rintro e w' ⟨rfl, hb⟩
    have HE := Lib.hid (HB5.out.low.trans (hb.mono HB5.out.low.size))
    clear hb
    go_wp2_with fail
    go_ret
    exact ⟨rfl, HE.out⟩
  have HP1 := Lib.hid (HZ.out rfl)
  clear HZ
  go_wp2_with fail
  clear a0 a1 a2 a3 b0 b1 b2 b3 la lb
  refine (Proper_any t HDT.out HMT.out (.slice pi' ni' ci') (.slice pt' nt' ct') (.slice pa' na' ca') w5 (HVT.out.below HB5.out.low)).mono ?_
  rintro e w6 ⟨z, rfl, hz, hb⟩
  have HB6 := Lib.hid (HB5.out.below hb)
  have HZ := Lib.hid hz
  clear hb hz
  have cells6 := HB6.out
  have a0 := cells6.a.cell 0
  have a1 := cells6.a.cell 1
  have a2 := cells6.a.cell 2
  have a3 := cells6.a.cell 3
  have b0 := cells6.b.cell 0
  have b1 := cells6.b.cell 1
  have b2 := cells6.b.cell 2
  have b3 := cells6.b.cell 3
  have la := cells6.a.lt
  have lb := cells6.b.lt
  clear cells6
  cases z
  case false =>
    go_wp2_with fail
    refine (HWK.out _ HB6.out.low).mono ?_
    rintro e w' ⟨rfl, hb⟩
    have HE := Lib.hid (HB6.out.low.trans (hb.mono HB6.out.low.size))
    clear hb
    go_wp2_with fail
    go_ret
    exact ⟨rfl, HE.out⟩
  have HP2 := Lib.hid (HZ.out rfl)
  clear HZ
  go_wp2_with fail
  clear a0 a1 a2 a3 b0 b1 b2 b3 la lb
  have HOS := Lib.hid (fun W (h : Below w.heap.size w W) => of_test s HDS.out ⟨by have := HMS.out.threads; omega, by have := HMS.out.init; omega⟩ (.slice pi ni ci) (.slice pt nt ct) (.slice pa na ca) W (HVS.out.below h))
  have HOT := Lib.hid (fun W (h : Below w.heap.size w W) => of_test t HDT.out ⟨by have := HMT.out.threads; omega, by have := HMT.out.init; omega⟩ (.slice pi' ni' ci') (.slice pt' nt' ct') (.slice pa' na' ca') W (HVT.out.below h))
  have HTS := Lib.hid (tsOf_proper HP1.out HF1.out HDS.out)
  have HTT := Lib.hid (tsOf_proper HP2.out HF2.out HDT.out)
  have HGS := Lib.hid (tsOf_good HMS.out HTS.out HDS.out)
  have HGT := Lib.hid (tsOf_good HMT.out HTT.out HDT.out)
  clear HF1 HF2 HP1 HP2 HMS HMT HDS HDT HVS HVT
  refine wp_flowE rel_below [34, 35, 36, 37, 5, 6] [eqV (.agg #[.slice pi ni ci, .slice pt nt ct, .bool s.all, .slice pa na ca]), outV s.all (tsOf s), eqV (.agg #[.slice pi' ni' ci', .slice pt' nt' ct', .bool t.all, .slice pa' na' ca']), outV t.all (tsOf t), tboxV w.heap.size, tboxV w.heap.size] 100 [] (fun _ _ => True) (fun _ _ => False) (bothE s.all t.all (tsOf s) (tsOf t))
    (fun i j u v W h => ⟨h.2, h.1⟩) (fun i j u v W W' h hb => ⟨h.1.mono hb, h.2.mono hb⟩) (by kernel_rfl) (by kernel_rfl) (by kernel_rfl) (by kernel_rfl) (by simp) ?_ ?_ (fun o h => absurd h (by decide)) (fun p hp => by cases hp) (fun _ _ _ h => h.elim) ?_
  · simp only [List.mem_cons, List.not_mem_nil, or_false, forall_eq_or_imp, forall_eq]
    exact ⟨eqV_monoR _, outV_monoR _ _, eqV_monoR _, outV_monoR _ _, tboxV_monoR _, tboxV_monoR _⟩
  · intro i o hi _ ho A W hW hk he
    simp only [List.length_cons, List.length_nil, Nat.zero_add, Nat.reduceAdd] at hi
    have hB := HB6.out.below hW
    have HLW := hB.low
    have triv : ∀ (i j : Nat) (u v : Value) (W : World), (i = 0 ∨ i = 2) → bothE s.all t.all (tsOf s) (tsOf t) i j u v W := fun i j u v W h => ⟨⟨fun h1 => by omega, fun h1 => by omega, fun h1 => by omega⟩, ⟨fun h1 h2 => by omega, fun h1 h2 => by omega, fun h1 h2 => by omega⟩⟩
    obtain rfl | rfl | rfl | rfl | rfl | rfl : i = 0 ∨ i = 1 ∨ i = 2 ∨ i = 3 ∨ i = 4 ∨ i = 5 := by omega
    · injection ho with ho; subst ho
      have t2 : A.tmps[2]?.getD undef = .pointer (some ⟨ga, 0, none⟩) := hk 2 (by rfl)
      have c0 := hB.a.cell 0
      have c1 := hB.a.cell 1
      have c2 := hB.a.cell 2
      have c3 := hB.a.cell 3
      go_simp
      exact ⟨rfl, Below.refl _ _⟩
    · injection ho with ho; subst ho
      have s34 : A.tmps[34]?.getD undef = .agg #[.slice pi ni ci, .slice pt nt ct, .bool s.all, .slice pa na ca] := he 0 (by kernel_rfl)
      go_simp
      refine Calls.mono (HOS.out W HLW) ?_
      rintro e' w' ⟨vi, vt, va, rfl, hu, hb⟩
      refine .inl ⟨_, rfl, ⟨vi, vt, va, rfl, hu.wider fun _ _ => trivial⟩, hb, fun j v hj hji hv => ⟨⟨fun _ h2 g hg => ⟨vi, vt, va, rfl, hu.wider fun x hx => ?_⟩, fun h => by omega, fun h => by omega⟩, ⟨fun h1 h2 => by omega, fun h1 h2 => by omega, fun h1 h2 => by omega⟩⟩⟩
      have hsit : ∃ g', v = ptrOf g' ∧ w.heap.size ≤ g' ∧ Sits W g' 33 zeroTs := by rcases h2 with rfl | rfl <;> exact hv
      obtain ⟨g', e1, _, hs⟩ := hsit
      rw [hg] at e1
      injection e1 with e1; injection e1 with e1; injection e1 with e1
      have := hs.lt
      omega
    · injection ho with ho; subst ho
      have t3 : A.tmps[3]?.getD undef = .pointer (some ⟨gb, 0, none⟩) := hk 3 (by rfl)
      have c0 := hB.b.cell 0
      have c1 := hB.b.cell 1
      have c2 := hB.b.cell 2
      have c3 := hB.b.cell 3
      go_simp
      exact ⟨rfl, Below.refl _ _⟩
    · injection ho with ho; subst ho
      have s36 : A.tmps[36]?.getD undef = .agg #[.slice pi' ni' ci', .slice pt' nt' ct', .bool t.all, .slice pa' na' ca'] := he 2 (by kernel_rfl)
      go_simp
      refine Calls.mono (HOT.out W HLW) ?_
      rintro e' w' ⟨vi, vt, va, rfl, hu, hb⟩
      refine .inl ⟨_, rfl, ⟨vi, vt, va, rfl, hu.wider fun _ _ => trivial⟩, hb, fun j v hj hji hv => ⟨⟨fun h => by omega, fun _ h2 g hg => ⟨vi, vt, va, rfl, hu.wider fun x hx => ?_⟩, fun h => by omega⟩, ⟨fun h1 h2 => by omega, fun h1 h2 => by omega, fun h1 h2 => by omega⟩⟩⟩
      have hsit : ∃ g', v = ptrOf g' ∧ w.heap.size ≤ g' ∧ Sits W g' 33 zeroTs := by rcases h2 with rfl | rfl <;> exact hv
      obtain ⟨g', e1, _, hs⟩ := hsit
      rw [hg] at e1
      injection e1 with e1; injection e1 with e1; injection e1 with e1
      have := hs.lt
      omega
    · injection ho with ho; subst ho
      go_simp
      have hal : Below W.heap.size W (W.alloc (.cells zeroTs 33)) := (Below.refl _ _).alloc (Nat.le_refl _) _
      refine ⟨⟨_, rfl, HLW.size, Sits.new _ _ _⟩, hal, fun j v hj hji hv => ⟨⟨fun h => by omega, fun h => by omega, fun _ h5 => ?_⟩, ⟨fun h1 _ g hg => ?_, fun h1 _ g hg => ?_, fun h1 h2 => by omega⟩⟩⟩
      · subst h5
        obtain ⟨g', e1, _, hs⟩ : ∃ g', v = ptrOf g' ∧ w.heap.size ≤ g' ∧ Sits W g' 33 zeroTs := hv
        rw [e1]
        intro e2
        injection e2 with e2; injection e2 with e2; injection e2 with e2
        have := hs.lt
        omega
      · subst h1
        injection hg with hg; injection hg with hg; injection hg with hg
        exact ((show outU any_ s.all (tsOf s) v W from hv).inside.wider fun x hx => by have := hx.2; omega).below hal
      · subst h1
        injection hg with hg; injection hg with hg; injection hg with hg
        exact ((show outU any_ t.all (tsOf t) v W from hv).inside.wider fun x hx => by have := hx.2; omega).below hal
    · injection ho with ho; subst ho
      go_simp
      have hal : Below W.heap.size W (W.alloc (.cells zeroTs 33)) := (Below.refl _ _).alloc (Nat.le_refl _) _
      refine ⟨⟨_, rfl, HLW.size, Sits.new _ _ _⟩, hal, fun j v hj hji hv => ⟨⟨fun h => by omega, fun h => by omega, fun h => by omega⟩, ⟨fun h1 _ g hg => ?_, fun h1 _ g hg => ?_, fun h4 _ => ?_⟩⟩⟩
      · subst h1
        injection hg with hg; injection hg with hg; injection hg with hg
        exact ((show outU any_ s.all (tsOf s) v W from hv).inside.wider fun x hx => by have := hx.2; omega).below hal
      · subst h1
        injection hg with hg; injection hg with hg; injection hg with hg
        exact ((show outU any_ t.all (tsOf t) v W from hv).inside.wider fun x hx => by have := hx.2; omega).below hal
      · subst h4
        obtain ⟨g', e1, _, hs⟩ : ∃ g', v = ptrOf g' ∧ w.heap.size ≤ g' ∧ Sits W g' 33 zeroTs := hv
        rw [e1]
        intro e2
        injection e2 with e2; injection e2 with e2; injection e2 with e2
        have := hs.lt
        omega
  · intro xs W h0 _ _
    obtain ⟨hW, hV, hE⟩ := h0 (by decide)
    obtain ⟨g4, e4, hg4, hs4⟩ : ∃ g', xs 4 = ptrOf g' ∧ w.heap.size ≤ g' ∧ Sits W g' 33 zeroTs := hV 4 (by decide)
    obtain ⟨g5, e5, hg5, hs5⟩ : ∃ g', xs 5 = ptrOf g' ∧ w.heap.size ≤ g' ∧ Sits W g' 33 zeroTs := hV 5 (by decide)
    have hne : g4 ≠ g5 := fun h => (hE 4 5 (by decide) (by decide) (by decide)).1.2.2 rfl rfl (by rw [e4, e5, h])
    obtain ⟨vi, vt, va, e1, hu1⟩ := ((hE 1 4 (by decide) (by decide) (by decide)).1.1 rfl (.inl rfl) g4 e4).and ((hE 1 5 (by decide) (by decide) (by decide)).1.1 rfl (.inr rfl) g5 e5)
    obtain ⟨vi', vt', va', e3, hu3⟩ := ((hE 3 4 (by decide) (by decide) (by decide)).1.2.1 rfl (.inl rfl) g4 e4).and ((hE 3 5 (by decide) (by decide) (by decide)).1.2.1 rfl (.inr rfl) g5 e5)
    obtain ⟨p1, k1, h1⟩ := hu1.v.init.len
    obtain ⟨p2, k2, h2⟩ := hu1.v.threads.len
    obtain ⟨p3, h3, _⟩ := hu1.v.ask.ptr
    obtain ⟨q1, l1, h4⟩ := hu3.v.init.len
    obtain ⟨q2, l2, h5⟩ := hu3.v.threads.len
    obtain ⟨q3, h6, _⟩ := hu3.v.ask.ptr
    subst h1 h2 h3 h4 h5 h6
    generalize (tsOf s).init.length = n1 at e1 hu1
    generalize (tsOf s).threads.length = n2 at e1 hu1
    generalize (tsOf t).init.length = m1 at e3 hu3
    generalize (tsOf t).threads.length = m2 at e3 hu3
    have ka : Keeps (fun x => x = g4) W (W.setRow g4 (outCells (.slice p1 n1 k1) (.slice p2 n2 k2) s.all p3)) := ⟨rfl, rfl, rfl, by simp [World.setRow], fun x _ hx => setRow_other W g4 x _ hx⟩
    have sa : Sits (W.setRow g4 (outCells (.slice p1 n1 k1) (.slice p2 n2 k2) s.all p3)) g4 33 (outCells (.slice p1 n1 k1) (.slice p2 n2 k2) s.all p3) := setRow_heap W g4 _ _ _ _ hs4
    have sb : Sits (W.setRow g4 (outCells (.slice p1 n1 k1) (.slice p2 n2 k2) s.all p3)) g5 33 zeroTs := hs5.keep ka (fun h => hne h.symm)
    have kb : Keeps (fun x => x = g5) (W.setRow g4 (outCells (.slice p1 n1 k1) (.slice p2 n2 k2) s.all p3)) ((W.setRow g4 (outCells (.slice p1 n1 k1) (.slice p2 n2 k2) s.all p3)).setRow g5 (outCells (.slice q1 m1 l1) (.slice q2 m2 l2) t.all q3)) := ⟨rfl, rfl, rfl, by simp [World.setRow], fun x _ hx => setRow_other _ g5 x _ hx⟩
    have hst : Stable 58 W ((W.setRow g4 (outCells (.slice p1 n1 k1) (.slice p2 n2 k2) s.all p3)).setRow g5 (outCells (.slice q1 m1 l1) (.slice q2 m2 l2) t.all q3)) := (Stable.keeps ka fun y cs h hx => h.differ hs4 (by decide) hx).trans (Stable.keeps kb fun y cs h hx => h.differ sb (by decide) hx)
    have hce : ∀ x, (x ≠ g4 ∧ x ≠ g5) → ∀ j y, W.cell? ⟨x, j, none⟩ = some y → ((W.setRow g4 (outCells (.slice p1 n1 k1) (.slice p2 n2 k2) s.all p3)).setRow g5 (outCells (.slice q1 m1 l1) (.slice q2 m2 l2) t.all q3)).cell? ⟨x, j, none⟩ = some y := fun x hx j y hy => by
      rw [World.cell?_of_block (w := W.setRow g4 (outCells (.slice p1 n1 k1) (.slice p2 n2 k2) s.all p3)) (setRow_other _ g5 x _ hx.2), World.cell?_of_block (w := W) (setRow_other W g4 x _ hx.1)]; exact hy
    have hlo : Below w.heap.size w ((W.setRow g4 (outCells (.slice p1 n1 k1) (.slice p2 n2 k2) s.all p3)).setRow g5 (outCells (.slice q1 m1 l1) (.slice q2 m2 l2) t.all q3)) := by
      have h0 := HB6.out.low.trans (hW.mono HB6.out.low.size)
      have h1 := behind h0 ka h0.size (fun x e => by rw [e]; exact hg4)
      exact behind h1 kb h1.size (fun x e => by rw [e]; exact hg5)
    have HP : Hid (Pair w g4 g5 (outCells (.slice p1 n1 k1) (.slice p2 n2 k2) s.all p3) (outCells (.slice q1 m1 l1) (.slice q2 m2 l2) t.all q3) (tsOf s) (tsOf t) (.slice p1 n1 k1) (.slice p2 n2 k2) (.pointer p3) (.slice q1 m1 l1) (.slice q2 m2 l2) (.pointer q3) ((W.setRow g4 (outCells (.slice p1 n1 k1) (.slice p2 n2 k2) s.all p3)).setRow g5 (outCells (.slice q1 m1 l1) (.slice q2 m2 l2) t.all q3))) := Lib.hid ⟨sa.keep kb (fun h => hne h), setRow_heap _ g5 _ _ _ _ sb, (hu1.keep hst hce).v, (hu3.keep hst hce).v, hlo⟩
    have HS4 := Lib.hid hs4
    have HS5 := Lib.hid sb
    simp only [testAgg] at e1 e3
    simp only [ptrOf] at e4 e5
    simp only [List.length_cons, List.length_nil, Nat.zero_add, Nat.reduceAdd, List.drop_succ_cons, List.drop_zero, putL, Act.put, List.setIfInBounds_toArray, List.set_cons_zero, List.set_cons_succ, e1, e3, e4, e5]
    clear h0 hW hV hE e1 e3 e4 e5 hu1 hu3 ka sa sb kb hst hce hlo hs4 hs5
    refine wpList_store_row rfl 33 _ _ rfl g4 (outCells (.slice p1 n1 k1) (.slice p2 n2 k2) s.all p3) rfl rfl 33 zeroTs HS4.out tsSize rfl (out_one _ _ _ _ _ _ _ _) ?_
    refine wpList_store_row rfl 33 _ _ rfl g5 (outCells (.slice q1 m1 l1) (.slice q2 m2 l2) t.all q3) rfl rfl 33 zeroTs HS5.out tsSize rfl (out_one _ _ _ _ _ _ _ _) ?_
    generalize (W.setRow g4 (outCells (.slice p1 n1 k1) (.slice p2 n2 k2) s.all p3)).setRow g5 (outCells (.slice q1 m1 l1) (.slice q2 m2 l2) t.all q3) = w7 at HP ⊢
    have HSS := Lib.hid (fun W (h : Pair w g4 g5 (outCells (.slice p1 n1 k1) (.slice p2 n2 k2) s.all p3) (outCells (.slice q1 m1 l1) (.slice q2 m2 l2) t.all q3) (tsOf s) (tsOf t) (.slice p1 n1 k1) (.slice p2 n2 k2) (.pointer p3) (.slice q1 m1 l1) (.slice q2 m2 l2) (.pointer q3) W) => same_test (tsOf s) (tsOf s) HGS.out.1 _ _ _ _ _ _ W h.s h.s)
    have HTT2 := Lib.hid (fun W (h : Pair w g4 g5 (outCells (.slice p1 n1 k1) (.slice p2 n2 k2) s.all p3) (outCells (.slice q1 m1 l1) (.slice q2 m2 l2) t.all q3) (tsOf s) (tsOf t) (.slice p1 n1 k1) (.slice p2 n2 k2) (.pointer p3) (.slice q1 m1 l1) (.slice q2 m2 l2) (.pointer q3) W) => same_test (tsOf t) (tsOf t) HGT.out.1 _ _ _ _ _ _ W h.t h.t)
    have HST := Lib.hid (fun W (h : Pair w g4 g5 (outCells (.slice p1 n1 k1) (.slice p2 n2 k2) s.all p3) (outCells (.slice q1 m1 l1) (.slice q2 m2 l2) t.all q3) (tsOf s) (tsOf t) (.slice p1 n1 k1) (.slice p2 n2 k2) (.pointer p3) (.slice q1 m1 l1) (.slice q2 m2 l2) (.pointer q3) W) => same_test (tsOf s) (tsOf t) HGS.out.1 _ _ _ _ _ _ W h.s h.t)
    have HTS2 := Lib.hid (fun W (h : Pair w g4 g5 (outCells (.slice p1 n1 k1) (.slice p2 n2 k2) s.all p3) (outCells (.slice q1 m1 l1) (.slice q2 m2 l2) t.all q3) (tsOf s) (tsOf t) (.slice p1 n1 k1) (.slice p2 n2 k2) (.pointer p3) (.slice q1 m1 l1) (.slice q2 m2 l2) (.pointer q3) W) => same_test (tsOf t) (tsOf s) HGT.out.1 _ _ _ _ _ _ W h.t h.s)
    have HXS := Lib.hid (fun W (h : Pair w g4 g5 (outCells (.slice p1 n1 k1) (.slice p2 n2 k2) s.all p3) (outCells (.slice q1 m1 l1) (.slice q2 m2 l2) t.all q3) (tsOf s) (tsOf t) (.slice p1 n1 k1) (.slice p2 n2 k2) (.pointer p3) (.slice q1 m1 l1) (.slice q2 m2 l2) (.pointer q3) W) => text_test (tsOf s) HGS.out.2 _ _ _ W (HX.out.below h.low) h.s)
    have HXT := Lib.hid (fun W (h : Pair w g4 g5 (outCells (.slice p1 n1 k1) (.slice p2 n2 k2) s.all p3) (outCells (.slice q1 m1 l1) (.slice q2 m2 l2) t.all q3) (tsOf s) (tsOf t) (.slice p1 n1 k1) (.slice p2 n2 k2) (.pointer p3) (.slice q1 m1 l1) (.slice q2 m2 l2) (.pointer q3) W) => text_test (tsOf t) HGT.out.2 _ _ _ W (HX.out.below h.low) h.t)
    have HEQ := Lib.hid (show ((str (tsOf s).text).toList == (str (tsOf t).text).toList) = decide (tsOf s = tsOf t) by
      rw [Bool.eq_iff_iff, beq_iff_eq, decide_eq_true_eq]
      exact ⟨fun h => test_inj HTS.out HTT.out (by simpa [str] using h), fun h => by rw [h]⟩)
    have HSY := Lib.hid (show decide (tsOf t = tsOf s) = decide (tsOf s = tsOf t) by rw [Bool.eq_iff_iff, decide_eq_true_eq, decide_eq_true_eq]; exact eq_comm)
    have HY1 := Lib.hid (decide_eq_true (show tsOf s = tsOf s from rfl))
    have HY2 := Lib.hid (decide_eq_true (show tsOf t = tsOf t from rfl))
    clear HS4 HS5 HOS HOT HTS HTT HGS HGT
    generalize str (tsOf s).text = xa at HXS HEQ
    generalize str (tsOf t).text = xb at HXT HEQ
    rw [HY1.out] at HSS
    rw [HY2.out] at HTT2
    rw [HSY.out] at HTS2
    generalize decide (tsOf s = tsOf t) = r at HST HTS2 HEQ
    clear HSY HY1 HY2
    unfold outCells at HP HSS HTT2 HST HTS2 HXS HXT
    unfold testAgg at HSS HTT2 HST HTS2 HXS HXT
    go_wp2_with fail
    refine wp_flowG [38, 39, 40, 41, 42, 43, 44, 45, 46, 47, 48, 49, 50, 51, 52, 53, 54, 55, 56, 57, 58, 59, 60, 61, 62, 63, 64, 65, 66, 67, 68] [eqV (.agg #[.slice p1 n1 k1, .slice p2 n2 k2, .bool s.all, .pointer p3]), eqV (.agg #[.slice p1 n1 k1, .slice p2 n2 k2, .bool s.all, .pointer p3]), eqV (.bool true), eqV (.bool true), eqV (.agg #[.slice q1 m1 l1, .slice q2 m2 l2, .bool t.all, .pointer q3]), eqV (.agg #[.slice q1 m1 l1, .slice q2 m2 l2, .bool t.all, .pointer q3]), eqV (.bool true), eqV (.bool true), eqV (.bool true), eqV (.agg #[.slice p1 n1 k1, .slice p2 n2 k2, .bool s.all, .pointer p3]), eqV (.agg #[.slice q1 m1 l1, .slice q2 m2 l2, .bool t.all, .pointer q3]), eqV (.bool r), eqV (.agg #[.slice p1 n1 k1, .slice p2 n2 k2, .bool s.all, .pointer p3]), eqV (.string xa), eqV (.agg #[.slice q1 m1 l1, .slice q2 m2 l2, .bool t.all, .pointer q3]), eqV (.string xb), eqV (.bool r), eqV (.bool true), eqV (.bool true), eqV (.bool true), eqV (.agg #[.slice q1 m1 l1, .slice q2 m2 l2, .bool t.all, .pointer q3]), eqV (.agg #[.slice p1 n1 k1, .slice p2 n2 k2, .bool s.all, .pointer p3]), eqV (.bool r), eqV (.agg #[.slice p1 n1 k1, .slice p2 n2 k2, .bool s.all, .pointer p3]), eqV (.agg #[.slice q1 m1 l1, .slice q2 m2 l2, .bool t.all, .pointer q3]), eqV (.bool r), eqV (.bool true), eqV (.bool true), eqV (.bool true), eqV (.bool true), eqV (.bool true)]
      (by kernel_rfl) (by kernel_rfl) (by kernel_rfl) (by kernel_rfl) (by rfl) (by simp only [List.mem_cons, List.not_mem_nil, or_false, forall_eq_or_imp, forall_eq]; refine ⟨?_, ?_, ?_, ?_, ?_, ?_, ?_, ?_, ?_, ?_, ?_, ?_, ?_, ?_, ?_, ?_, ?_, ?_, ?_, ?_, ?_, ?_, ?_, ?_, ?_, ?_, ?_, ?_, ?_, ?_, ?_⟩ <;> exact eqV_mono _) ?_ ?_
    · intro i o hi ho A W hW hk he
      simp only [List.length_cons, List.length_nil, Nat.zero_add, Nat.reduceAdd] at hi
      have hP := HP.out.grown hW
      obtain rfl | rfl | rfl | rfl | rfl | rfl | rfl | rfl | rfl | rfl | rfl | rfl | rfl | rfl | rfl | rfl | rfl | rfl | rfl | rfl | rfl | rfl | rfl | rfl | rfl | rfl | rfl | rfl | rfl | rfl | rfl : i = 0 ∨ i = 1 ∨ i = 2 ∨ i = 3 ∨ i = 4 ∨ i = 5 ∨ i = 6 ∨ i = 7 ∨ i = 8 ∨ i = 9 ∨ i = 10 ∨ i = 11 ∨ i = 12 ∨ i = 13 ∨ i = 14 ∨ i = 15 ∨ i = 16 ∨ i = 17 ∨ i = 18 ∨ i = 19 ∨ i = 20 ∨ i = 21 ∨ i = 22 ∨ i = 23 ∨ i = 24 ∨ i = 25 ∨ i = 26 ∨ i = 27 ∨ i = 28 ∨ i = 29 ∨ i = 30 := by omega
      · injection ho with ho; subst ho
        refine .inl ⟨wanted_free rfl, ?_⟩
        have hx : A.tmps[5]?.getD undef = .pointer (some ⟨g4, 0, none⟩) := hk 5 (by rfl)
        have c0 := hP.s1.cell 0
        have c1 := hP.s1.cell 1
        have c2 := hP.s1.cell 2
        have c3 := hP.s1.cell 3
        go_simp
        exact ⟨rfl, Below.refl _ _⟩
      · injection ho with ho; subst ho
        refine .inl ⟨wanted_free rfl, ?_⟩
        have hx : A.tmps[5]?.getD undef = .pointer (some ⟨g4, 0, none⟩) := hk 5 (by rfl)
        have c0 := hP.s1.cell 0
        have c1 := hP.s1.cell 1
        have c2 := hP.s1.cell 2
        have c3 := hP.s1.cell 3
        go_simp
        exact ⟨rfl, Below.refl _ _⟩
      · injection ho with ho; subst ho
        refine .inl ⟨wanted_free rfl, ?_⟩
        have s0 : A.tmps[38]?.getD undef = (.agg #[.slice p1 n1 k1, .slice p2 n2 k2, .bool s.all, .pointer p3]) := he 0 (by kernel_rfl)
        have s1 : A.tmps[39]?.getD undef = (.agg #[.slice p1 n1 k1, .slice p2 n2 k2, .bool s.all, .pointer p3]) := he 1 (by kernel_rfl)
        go_simp
        refine Calls.mono (HSS.out W hP) ?_
        rintro e' w' ⟨rfl, hb⟩
        exact ⟨_, rfl, rfl, hb⟩
      · injection ho with ho; subst ho
        refine .inl ⟨wanted_free rfl, ?_⟩
        have s0 : A.tmps[40]?.getD undef = (.bool true) := he 2 (by kernel_rfl)
        go_simp
        exact ⟨by simp [pick, eqV], Below.refl _ _⟩
      · injection ho with ho; subst ho
        have hg : A.tmps[41]?.getD undef = .bool true := he 3 (by kernel_rfl)
        refine .inl ⟨wanted_yes (d := 41) rfl (by kernel_rfl) hg, ?_⟩
        have hx : A.tmps[6]?.getD undef = .pointer (some ⟨g5, 0, none⟩) := hk 6 (by rfl)
        have c0 := hP.s2.cell 0
        have c1 := hP.s2.cell 1
        have c2 := hP.s2.cell 2
        have c3 := hP.s2.cell 3
        go_simp
        exact ⟨rfl, Below.refl _ _⟩
      · injection ho with ho; subst ho
        have hg : A.tmps[41]?.getD undef = .bool true := he 3 (by kernel_rfl)
        refine .inl ⟨wanted_yes (d := 41) rfl (by kernel_rfl) hg, ?_⟩
        have hx : A.tmps[6]?.getD undef = .pointer (some ⟨g5, 0, none⟩) := hk 6 (by rfl)
        have c0 := hP.s2.cell 0
        have c1 := hP.s2.cell 1
        have c2 := hP.s2.cell 2
        have c3 := hP.s2.cell 3
        go_simp
        exact ⟨rfl, Below.refl _ _⟩
      · injection ho with ho; subst ho
        have hg : A.tmps[41]?.getD undef = .bool true := he 3 (by kernel_rfl)
        refine .inl ⟨wanted_yes (d := 41) rfl (by kernel_rfl) hg, ?_⟩
        have s0 : A.tmps[42]?.getD undef = (.agg #[.slice q1 m1 l1, .slice q2 m2 l2, .bool t.all, .pointer q3]) := he 4 (by kernel_rfl)
        have s1 : A.tmps[43]?.getD undef = (.agg #[.slice q1 m1 l1, .slice q2 m2 l2, .bool t.all, .pointer q3]) := he 5 (by kernel_rfl)
        go_simp
        refine Calls.mono (HTT2.out W hP) ?_
        rintro e' w' ⟨rfl, hb⟩
        exact ⟨_, rfl, rfl, hb⟩
      · injection ho with ho; subst ho
        refine .inl ⟨wanted_free rfl, ?_⟩
        have s0 : A.tmps[41]?.getD undef = (.bool true) := he 3 (by kernel_rfl)
        have s1 : A.tmps[44]?.getD undef = (.bool true) := he 6 (by kernel_rfl)
        go_simp
        exact ⟨by simp [pick, eqV], Below.refl _ _⟩
      · injection ho with ho; subst ho
        refine .inl ⟨wanted_free rfl, ?_⟩
        have s0 : A.tmps[45]?.getD undef = (.bool true) := he 7 (by kernel_rfl)
        go_simp
        exact ⟨by simp [pick, eqV], Below.refl _ _⟩
      · injection ho with ho; subst ho
        have hg : A.tmps[46]?.getD undef = .bool true := he 8 (by kernel_rfl)
        refine .inl ⟨wanted_yes (d := 46) rfl (by kernel_rfl) hg, ?_⟩
        have hx : A.tmps[5]?.getD undef = .pointer (some ⟨g4, 0, none⟩) := hk 5 (by rfl)
        have c0 := hP.s1.cell 0
        have c1 := hP.s1.cell 1
        have c2 := hP.s1.cell 2
        have c3 := hP.s1.cell 3
        go_simp
        exact ⟨rfl, Below.refl _ _⟩
      · injection ho with ho; subst ho
        have hg : A.tmps[46]?.getD undef = .bool true := he 8 (by kernel_rfl)
        refine .inl ⟨wanted_yes (d := 46) rfl (by kernel_rfl) hg, ?_⟩
        have hx : A.tmps[6]?.getD undef = .pointer (some ⟨g5, 0, none⟩) := hk 6 (by rfl)
        have c0 := hP.s2.cell 0
        have c1 := hP.s2.cell 1
        have c2 := hP.s2.cell 2
        have c3 := hP.s2.cell 3
        go_simp
        exact ⟨rfl, Below.refl _ _⟩
      · injection ho with ho; subst ho
        have hg : A.tmps[46]?.getD undef = .bool true := he 8 (by kernel_rfl)
        refine .inl ⟨wanted_yes (d := 46) rfl (by kernel_rfl) hg, ?_⟩
        have s0 : A.tmps[47]?.getD undef = (.agg #[.slice p1 n1 k1, .slice p2 n2 k2, .bool s.all, .pointer p3]) := he 9 (by kernel_rfl)
        have s1 : A.tmps[48]?.getD undef = (.agg #[.slice q1 m1 l1, .slice q2 m2 l2, .bool t.all, .pointer q3]) := he 10 (by kernel_rfl)
        go_simp
        refine Calls.mono (HST.out W hP) ?_
        rintro e' w' ⟨rfl, hb⟩
        exact ⟨_, rfl, rfl, hb⟩
      · injection ho with ho; subst ho
        have hg : A.tmps[46]?.getD undef = .bool true := he 8 (by kernel_rfl)
        refine .inl ⟨wanted_yes (d := 46) rfl (by kernel_rfl) hg, ?_⟩
        have hx : A.tmps[5]?.getD undef = .pointer (some ⟨g4, 0, none⟩) := hk 5 (by rfl)
        have c0 := hP.s1.cell 0
        have c1 := hP.s1.cell 1
        have c2 := hP.s1.cell 2
        have c3 := hP.s1.cell 3
        go_simp
        exact ⟨rfl, Below.refl _ _⟩
      · injection ho with ho; subst ho
        have hg : A.tmps[46]?.getD undef = .bool true := he 8 (by kernel_rfl)
        refine .inl ⟨wanted_yes (d := 46) rfl (by kernel_rfl) hg, ?_⟩
        have s0 : A.tmps[50]?.getD undef = (.agg #[.slice p1 n1 k1, .slice p2 n2 k2, .bool s.all, .pointer p3]) := he 12 (by kernel_rfl)
        go_simp
        refine Calls.mono (HXS.out W hP) ?_
        rintro e' w' ⟨rfl, hb⟩
        exact ⟨_, rfl, rfl, hb⟩
      · injection ho with ho; subst ho
        have hg : A.tmps[46]?.getD undef = .bool true := he 8 (by kernel_rfl)
        refine .inl ⟨wanted_yes (d := 46) rfl (by kernel_rfl) hg, ?_⟩
        have hx : A.tmps[6]?.getD undef = .pointer (some ⟨g5, 0, none⟩) := hk 6 (by rfl)
        have c0 := hP.s2.cell 0
        have c1 := hP.s2.cell 1
        have c2 := hP.s2.cell 2
        have c3 := hP.s2.cell 3
        go_simp
        exact ⟨rfl, Below.refl _ _⟩
      · injection ho with ho; subst ho
        have hg : A.tmps[46]?.getD undef = .bool true := he 8 (by kernel_rfl)
        refine .inl ⟨wanted_yes (d := 46) rfl (by kernel_rfl) hg, ?_⟩
        have s0 : A.tmps[52]?.getD undef = (.agg #[.slice q1 m1 l1, .slice q2 m2 l2, .bool t.all, .pointer q3]) := he 14 (by kernel_rfl)
        go_simp
        refine Calls.mono (HXT.out W hP) ?_
        rintro e' w' ⟨rfl, hb⟩
        exact ⟨_, rfl, rfl, hb⟩
      · injection ho with ho; subst ho
        have hg : A.tmps[46]?.getD undef = .bool true := he 8 (by kernel_rfl)
        refine .inl ⟨wanted_yes (d := 46) rfl (by kernel_rfl) hg, ?_⟩
        have s0 : A.tmps[51]?.getD undef = (.string xa) := he 13 (by kernel_rfl)
        have s1 : A.tmps[53]?.getD undef = (.string xb) := he 15 (by kernel_rfl)
        go_simp
        exact ⟨congrArg Value.bool HEQ.out, Below.refl _ _⟩
      · injection ho with ho; subst ho
        have hg : A.tmps[46]?.getD undef = .bool true := he 8 (by kernel_rfl)
        refine .inl ⟨wanted_yes (d := 46) rfl (by kernel_rfl) hg, ?_⟩
        have s0 : A.tmps[49]?.getD undef = (.bool r) := he 11 (by kernel_rfl)
        have s1 : A.tmps[54]?.getD undef = (.bool r) := he 16 (by kernel_rfl)
        go_simp
        exact ⟨by simp [pick, eqV], Below.refl _ _⟩
      · injection ho with ho; subst ho
        refine .inl ⟨wanted_free rfl, ?_⟩
        have s0 : A.tmps[46]?.getD undef = (.bool true) := he 8 (by kernel_rfl)
        have s1 : A.tmps[55]?.getD undef = (.bool true) := he 17 (by kernel_rfl)
        go_simp
        exact ⟨by simp [pick, eqV], Below.refl _ _⟩
      · injection ho with ho; subst ho
        refine .inl ⟨wanted_free rfl, ?_⟩
        have s0 : A.tmps[56]?.getD undef = (.bool true) := he 18 (by kernel_rfl)
        go_simp
        exact ⟨by simp [pick, eqV], Below.refl _ _⟩
      · injection ho with ho; subst ho
        have hg : A.tmps[57]?.getD undef = .bool true := he 19 (by kernel_rfl)
        refine .inl ⟨wanted_yes (d := 57) rfl (by kernel_rfl) hg, ?_⟩
        have hx : A.tmps[6]?.getD undef = .pointer (some ⟨g5, 0, none⟩) := hk 6 (by rfl)
        have c0 := hP.s2.cell 0
        have c1 := hP.s2.cell 1
        have c2 := hP.s2.cell 2
        have c3 := hP.s2.cell 3
        go_simp
        exact ⟨rfl, Below.refl _ _⟩
      · injection ho with ho; subst ho
        have hg : A.tmps[57]?.getD undef = .bool true := he 19 (by kernel_rfl)
        refine .inl ⟨wanted_yes (d := 57) rfl (by kernel_rfl) hg, ?_⟩
        have hx : A.tmps[5]?.getD undef = .pointer (some ⟨g4, 0, none⟩) := hk 5 (by rfl)
        have c0 := hP.s1.cell 0
        have c1 := hP.s1.cell 1
        have c2 := hP.s1.cell 2
        have c3 := hP.s1.cell 3
        go_simp
        exact ⟨rfl, Below.refl _ _⟩
      · injection ho with ho; subst ho
        have hg : A.tmps[57]?.getD undef = .bool true := he 19 (by kernel_rfl)
        refine .inl ⟨wanted_yes (d := 57) rfl (by kernel_rfl) hg, ?_⟩
        have s0 : A.tmps[58]?.getD undef = (.agg #[.slice q1 m1 l1, .slice q2 m2 l2, .bool t.all, .pointer q3]) := he 20 (by kernel_rfl)
        have s1 : A.tmps[59]?.getD undef = (.agg #[.slice p1 n1 k1, .slice p2 n2 k2, .bool s.all, .pointer p3]) := he 21 (by kernel_rfl)
        go_simp
        refine Calls.mono (HTS2.out W hP) ?_
        rintro e' w' ⟨rfl, hb⟩
        exact ⟨_, rfl, rfl, hb⟩
      · injection ho with ho; subst ho
        have hg : A.tmps[57]?.getD undef = .bool true := he 19 (by kernel_rfl)
        refine .inl ⟨wanted_yes (d := 57) rfl (by kernel_rfl) hg, ?_⟩
        have hx : A.tmps[5]?.getD undef = .pointer (some ⟨g4, 0, none⟩) := hk 5 (by rfl)
        have c0 := hP.s1.cell 0
        have c1 := hP.s1.cell 1
        have c2 := hP.s1.cell 2
        have c3 := hP.s1.cell 3
        go_simp
        exact ⟨rfl, Below.refl _ _⟩
      · injection ho with ho; subst ho
        have hg : A.tmps[57]?.getD undef = .bool true := he 19 (by kernel_rfl)
        refine .inl ⟨wanted_yes (d := 57) rfl (by kernel_rfl) hg, ?_⟩
        have hx : A.tmps[6]?.getD undef = .pointer (some ⟨g5, 0, none⟩) := hk 6 (by rfl)
        have c0 := hP.s2.cell 0
        have c1 := hP.s2.cell 1
        have c2 := hP.s2.cell 2
        have c3 := hP.s2.cell 3
        go_simp
        exact ⟨rfl, Below.refl _ _⟩
      · injection ho with ho; subst ho
        have hg : A.tmps[57]?.getD undef = .bool true := he 19 (by kernel_rfl)
        refine .inl ⟨wanted_yes (d := 57) rfl (by kernel_rfl) hg, ?_⟩
        have s0 : A.tmps[61]?.getD undef = (.agg #[.slice p1 n1 k1, .slice p2 n2 k2, .bool s.all, .pointer p3]) := he 23 (by kernel_rfl)
        have s1 : A.tmps[62]?.getD undef = (.agg #[.slice q1 m1 l1, .slice q2 m2 l2, .bool t.all, .pointer q3]) := he 24 (by kernel_rfl)
        go_simp
        refine Calls.mono (HST.out W hP) ?_
        rintro e' w' ⟨rfl, hb⟩
        exact ⟨_, rfl, rfl, hb⟩
      · injection ho with ho; subst ho
        have hg : A.tmps[57]?.getD undef = .bool true := he 19 (by kernel_rfl)
        refine .inl ⟨wanted_yes (d := 57) rfl (by kernel_rfl) hg, ?_⟩
        have s0 : A.tmps[60]?.getD undef = (.bool r) := he 22 (by kernel_rfl)
        have s1 : A.tmps[63]?.getD undef = (.bool r) := he 25 (by kernel_rfl)
        go_simp
        exact ⟨by simp [pick, eqV], Below.refl _ _⟩
      · injection ho with ho; subst ho
        refine .inl ⟨wanted_free rfl, ?_⟩
        have s0 : A.tmps[57]?.getD undef = (.bool true) := he 19 (by kernel_rfl)
        have s1 : A.tmps[64]?.getD undef = (.bool true) := he 26 (by kernel_rfl)
        go_simp
        exact ⟨by simp [pick, eqV], Below.refl _ _⟩
      · injection ho with ho; subst ho
        refine .inl ⟨wanted_free rfl, ?_⟩
        have s0 : A.tmps[65]?.getD undef = (.bool true) := he 27 (by kernel_rfl)
        go_simp
        exact ⟨by simp [pick, eqV], Below.refl _ _⟩
      · injection ho with ho; subst ho
        have hg : A.tmps[66]?.getD undef = .bool true := he 28 (by kernel_rfl)
        refine .inl ⟨wanted_yes (d := 66) rfl (by kernel_rfl) hg, ?_⟩
        go_simp
        refine Calls.mono (HWK.out W hP.low) ?_
        rintro e' w' ⟨rfl, hb⟩
        exact ⟨_, rfl, rfl, hb⟩
      · injection ho with ho; subst ho
        refine .inl ⟨wanted_free rfl, ?_⟩
        have s0 : A.tmps[66]?.getD undef = (.bool true) := he 28 (by kernel_rfl)
        have s1 : A.tmps[67]?.getD undef = (.bool true) := he 29 (by kernel_rfl)
        go_simp
        exact ⟨by simp [pick, eqV], Below.refl _ _⟩
    · intro xs W hW hV
      have e30 : xs 30 = .bool true := hV 30 (by decide)
      have HEND := Lib.hid (HP.out.low.trans (hW.mono HP.out.low.size))
      simp only [List.length_cons, List.length_nil, Nat.zero_add, Nat.reduceAdd, List.drop_succ_cons, List.drop_zero, putL, Act.put, List.setIfInBounds_toArray, List.set_cons_zero, List.set_cons_succ, e30]
      clear hV hW e30 HP
      go_wp2_with fail
      go_ret
      exact ⟨rfl, HEND.out⟩
end Go.Proofs.YtpdpofoicdijlaaGreatDoor.Prog
namespace Go.Proofs.YtpdpofoicdijlaaGreatDoor.Prog
open Go.RowKit Go.ChangeShapes Go.WideShapes Go.ChangeAt Go.Proofs.YtpdpofoicdijlaaGreatDoor.Card Go.Proofs.YtpdpofoicdijlaaGreatDoor.Mem Go.Proofs.YtpdpofoicdijlaaGreatDoor.Expr Go.Deep

noncomputable def fieldsAt (t : TypeId) : Array Field := match Tryz.prog.underlying t with
  | some (.struct fs) => fs
  | _ => #[]
theorem mark_under : Tryz.prog.underlying 49 = some (.struct (fieldsAt 49)) := by
  unfold fieldsAt; rw [Tryz.underlying49]
theorem init_under : Tryz.prog.underlying 54 = some (.struct (fieldsAt 54)) := by
  unfold fieldsAt; rw [Tryz.underlying54]
theorem test_under : Tryz.prog.underlying 26 = some (.struct (fieldsAt 26)) := by
  unfold fieldsAt; rw [Tryz.underlying26]
theorem mark_f0 : ((fieldsAt 49)[0]?).map (fun f => (Tryz.prog.underlying f.type, f.offset, Tryz.prog.cellsOf f.type)) = some (some (.int .u8), 0, 1) := by kernel_rfl
theorem mark_f1 : ((fieldsAt 49)[1]?).map (fun f => (Tryz.prog.underlying f.type, f.offset, Tryz.prog.cellsOf f.type)) = some (some (.int .u8), 1, 1) := by kernel_rfl
theorem mark_f2 : ((fieldsAt 49)[2]?).map (fun f => (Tryz.prog.underlying f.type, f.offset, Tryz.prog.cellsOf f.type)) = some (some (.int .u8), 2, 1) := by kernel_rfl
theorem mark_f3 : ((fieldsAt 49)[3]?).map (fun f => (Tryz.prog.underlying f.type, f.offset, Tryz.prog.cellsOf f.type)) = some (some (.int .u8), 3, 1) := by kernel_rfl
theorem mark_f4 : ((fieldsAt 49)[4]?).map (fun f => (f.type, f.offset, Tryz.prog.cellsOf f.type)) = some (24, 4, 1) := by kernel_rfl
theorem mark_f5 : ((fieldsAt 49)[5]?).map (fun f => (f.type, f.offset, Tryz.prog.cellsOf f.type)) = some (24, 5, 1) := by kernel_rfl
theorem mark_cells : Tryz.prog.cellsOf 49 = 6 := by kernel_rfl
theorem init_f0 : ((fieldsAt 54)[0]?).map (fun f => (Tryz.prog.underlying f.type, f.offset, Tryz.prog.cellsOf f.type)) = some (some (.int .u8), 0, 1) := by kernel_rfl
theorem init_f1 : ((fieldsAt 54)[1]?).map (fun f => (Tryz.prog.underlying f.type, f.offset, Tryz.prog.cellsOf f.type)) = some (some (.int .u64), 1, 1) := by kernel_rfl
theorem init_cells : Tryz.prog.cellsOf 54 = 2 := by kernel_rfl
theorem test_f0 : ((fieldsAt 26)[0]?).map (fun f => (f.type, f.offset, Tryz.prog.cellsOf f.type)) = some (22, 0, 1) := by kernel_rfl
theorem test_f1 : ((fieldsAt 26)[1]?).map (fun f => (f.type, f.offset, Tryz.prog.cellsOf f.type)) = some (23, 1, 1) := by kernel_rfl
theorem test_f2 : ((fieldsAt 26)[2]?).map (fun f => (Tryz.prog.underlying f.type, f.offset, Tryz.prog.cellsOf f.type)) = some (some .bool, 2, 1) := by kernel_rfl
theorem test_f3 : ((fieldsAt 26)[3]?).map (fun f => (f.type, f.offset, Tryz.prog.cellsOf f.type)) = some (24, 3, 1) := by kernel_rfl
theorem test_cells : Tryz.prog.cellsOf 26 = 4 := by kernel_rfl
theorem marks_cells : Tryz.prog.cellsOf 47 = 1 := by kernel_rfl
section
variable {H : Type} {enc : TypeId × Value → H} {w : World} {base : Nat} {sp : Nat → Bool} {held : Bool}
/-- A field of a struct that is read, by its type. -/
theorem field_at {n : Nat} {fs : Array Field} {xs : List (DataW H × List MemPlace)} {cs : List Value} {j o : Nat} {t : TypeId}
    (hi : (fs[j]?).map (fun f => (f.type, f.offset, Tryz.prog.cellsOf f.type)) = some (t, o, 1)) (hx : xs.length = fs.size)
    (h : ∀ (i : Nat) (f : Field), fs[i]? = some f → DataW.trod enc Tryz.prog w base sp held n f.type ((cs.drop f.offset).take (Tryz.prog.cellsOf f.type)) = xs[i]?) : ∃ x, DataW.trod enc Tryz.prog w base sp held n t ((cs.drop o).take 1) = some x := by
  obtain ⟨f, hf, he⟩ := Option.map_eq_some_iff.1 hi
  simp only [Prod.mk.injEq] at he
  obtain ⟨rfl, rfl, hc⟩ := he
  have hj : j < xs.length := by rw [hx]; exact (Array.getElem?_eq_some_iff.1 hf).1
  have h1 := h j f hf
  rw [List.getElem?_eq_getElem hj, hc] at h1
  exact ⟨_, h1⟩
theorem one_cell {cs : List Value} {o : Nat} {v : Value} (h : (cs.drop o).take 1 = [v]) : cs[o]? = some v := by
  have := congrArg (·[0]?) h
  simpa [List.getElem?_take, List.getElem?_drop] using this
set_option maxRecDepth 100000 in
/-- A row of items wherever it stands. -/
theorem items_open {n : Nat} {cs : List Value} {x : DataW H × List MemPlace} (h : DataW.trod enc Tryz.prog w base sp held n 24 cs = some x) :
    ∃ q len cap, cs = [.slice q len cap] ∧ len ≤ maxLen ∧ (len ≤ 1000000 → ∃ l : List It, l.length = len ∧ (∀ a ∈ l, a.bd) ∧ Row w (.slice q len cap) l) := by
  rcases open_slice Tryz.underlying24 h with ⟨hcs, _⟩ | ⟨a, len, cap, m, n', D, Pl, hcs, _, hl, hm, hmm, _, hi⟩
  · exact ⟨none, 0, 0, hcs, Nat.zero_le _, fun _ => ⟨[], rfl, (fun a ha => by cases ha), .inl ⟨rfl, _, _, rfl⟩⟩⟩
  · refine ⟨some a, len, cap, hcs, by omega, fun hlen => ?_⟩
    have hml : len ≤ m := by rw [hmm]; split <;> omega
    cases len with
    | zero => exact ⟨[], rfl, (fun a ha => by cases ha), .inl ⟨rfl, _, _, rfl⟩⟩
    | succ k =>
      rw [item_cells] at hi
      obtain ⟨b, off, spot⟩ := a
      have hspot : spot = none := by
        obtain ⟨cs, hc, ht⟩ := hi 0 (by omega)
        obtain ⟨_, hcl, hcc⟩ := World.cells?_some hc
        have h0 := hcc 0 (by omega)
        rw [List.getElem?_eq_getElem (by omega)] at h0
        have := World.cell?_spot h0
        simpa [Addr.add] using this
      subst hspot
      have each : ∀ i, i < k + 1 → ∃ a : It, a.bd ∧ ItemAt w b (off + i * 6) a := fun i hik => by
        obtain ⟨cs, hc, ht⟩ := hi i (by omega)
        obtain ⟨_, hcl, hcc⟩ := World.cells?_some hc
        refine item_open ht fun j hj => ?_
        have := hcc j hj
        rwa [add_plain, add_plain] at this
      obtain ⟨l, hll, hq⟩ := list_of each
      refine ⟨l, hll, fun a ha => ?_, .inr ⟨b, off, cap, by rw [hll], by rw [hll]; exact hlen, fun i a ha => (hq i a ha).2⟩⟩
      obtain ⟨i, hi'⟩ := List.getElem?_of_mem ha
      exact (hq i a hi').1
/-- A mark whose rows of items are of whatever length. -/
def MarkO (w : World) (g o : Nat) : Prop := ∃ (kd rg md lc : Nat) (pa : Option Addr) (na ca : Nat) (pb : Option Addr) (nb cb : Nat), kd < 256 ∧ rg < 256 ∧ md < 256 ∧ lc < 256 ∧ w.cell? ⟨g, o, none⟩ = some (.int .u8 kd) ∧ w.cell? ⟨g, o + 1, none⟩ = some (.int .u8 rg) ∧ w.cell? ⟨g, o + 2, none⟩ = some (.int .u8 md) ∧
  w.cell? ⟨g, o + 3, none⟩ = some (.int .u8 lc) ∧ w.cell? ⟨g, o + 4, none⟩ = some (.slice pa na ca) ∧ w.cell? ⟨g, o + 5, none⟩ = some (.slice pb nb cb) ∧ na ≤ maxLen ∧ nb ≤ maxLen ∧
  (na ≤ 1000000 → ∃ l : List It, l.length = na ∧ (∀ a ∈ l, a.bd) ∧ Row w (.slice pa na ca) l) ∧ (nb ≤ 1000000 → ∃ l : List It, l.length = nb ∧ (∀ a ∈ l, a.bd) ∧ Row w (.slice pb nb cb) l)
theorem mark_open {n : Nat} {cs : List Value} {x : DataW H × List MemPlace} (h : DataW.trod enc Tryz.prog w base sp held n 49 cs = some x) {g o : Nat} (hc : ∀ j, j < 6 → w.cell? ⟨g, o + j, none⟩ = cs[j]?) : MarkO w g o := by
  obtain ⟨xs, n', _, _, _, hxl, hf⟩ := DataW.trod_struct mark_under h
  obtain ⟨z0, h0, w0⟩ := field_int mark_f0 hxl hf
  obtain ⟨z1, h1, w1⟩ := field_int mark_f1 hxl hf
  obtain ⟨z2, h2, w2⟩ := field_int mark_f2 hxl hf
  obtain ⟨z3, h3, w3⟩ := field_int mark_f3 hxl hf
  obtain ⟨x4, h4⟩ := field_at mark_f4 hxl hf
  obtain ⟨x5, h5⟩ := field_at mark_f5 hxl hf
  obtain ⟨n0, rfl, b0⟩ := nat_of_u8 w0
  obtain ⟨n1, rfl, b1⟩ := nat_of_u8 w1
  obtain ⟨n2, rfl, b2⟩ := nat_of_u8 w2
  obtain ⟨n3, rfl, b3⟩ := nat_of_u8 w3
  obtain ⟨pa, na, ca, e4, l4, r4⟩ := items_open h4
  obtain ⟨pb, nb, cb, e5, l5, r5⟩ := items_open h5
  exact ⟨n0, n1, n2, n3, pa, na, ca, pb, nb, cb, b0, b1, b2, b3, (hc 0 (by omega)).trans h0, (hc 1 (by omega)).trans h1, (hc 2 (by omega)).trans h2, (hc 3 (by omega)).trans h3, (hc 4 (by omega)).trans (one_cell e4), (hc 5 (by omega)).trans (one_cell e5), l4, l5, r4, r5⟩
set_option maxRecDepth 100000 in
/-- A row of marks wherever it stands. -/
theorem marks_open {n : Nat} {cs : List Value} {x : DataW H × List MemPlace} (h : DataW.trod enc Tryz.prog w base sp held n 47 cs = some x) :
    ∃ q len cap, cs = [.slice q len cap] ∧ len ≤ maxLen ∧ ∀ i, i < len → ∃ g o, q = some ⟨g, o, none⟩ ∧ MarkO w g (o + i * 6) := by
  rcases open_slice Tryz.underlying47 h with ⟨hcs, _⟩ | ⟨a, len, cap, m, n', D, Pl, hcs, _, hl, hm, hmm, _, hi⟩
  · exact ⟨none, 0, 0, hcs, Nat.zero_le _, fun i hi => by omega⟩
  · refine ⟨some a, len, cap, hcs, by omega, fun i hik => ?_⟩
    have hml : len ≤ m := by rw [hmm]; split <;> omega
    rw [mark_cells] at hi
    obtain ⟨b, off, spot⟩ := a
    have hspot : spot = none := by
      obtain ⟨cs, hc, ht⟩ := hi 0 (by omega)
      obtain ⟨_, hcl, hcc⟩ := World.cells?_some hc
      have h0 := hcc 0 (by omega)
      rw [List.getElem?_eq_getElem (by omega)] at h0
      have := World.cell?_spot h0
      simpa [Addr.add] using this
    subst hspot
    refine ⟨b, off, rfl, ?_⟩
    obtain ⟨cs, hc, ht⟩ := hi i (by omega)
    obtain ⟨_, hcl, hcc⟩ := World.cells?_some hc
    refine mark_open ht fun j hj => ?_
    have := hcc j hj
    rwa [add_plain, add_plain] at this
set_option maxRecDepth 100000 in
/-- Threads wherever they stand. -/
theorem threads_open {n : Nat} {cs : List Value} {x : DataW H × List MemPlace} (h : DataW.trod enc Tryz.prog w base sp held n 23 cs = some x) :
    ∃ q len cap, cs = [.slice q len cap] ∧ len ≤ maxLen ∧ ∀ i, i < len → ∃ g o p k c, q = some ⟨g, o, none⟩ ∧ w.cell? ⟨g, o + i, none⟩ = some (.slice p k c) ∧ k ≤ maxLen ∧ ∀ j, j < k → ∃ g' o', p = some ⟨g', o', none⟩ ∧ MarkO w g' (o' + j * 6) := by
  rcases open_slice1 Tryz.underlying23 marks_cells h with ⟨hcs, _⟩ | ⟨a, len, cap, m, n', V, D, Pl, hcs, _, hl, hm, hmm, _, hi⟩
  · exact ⟨none, 0, 0, hcs, Nat.zero_le _, fun i hi => by omega⟩
  · refine ⟨some a, len, cap, hcs, by omega, fun i hik => ?_⟩
    have hml : len ≤ m := by rw [hmm]; split <;> omega
    obtain ⟨b, off, spot⟩ := a
    have hspot : spot = none := by
      have := World.cell?_spot (hi 0 (by omega)).1
      simpa [Addr.add] using this
    subst hspot
    obtain ⟨hc, ht⟩ := hi i (by omega)
    obtain ⟨p, k, c, e, hk, hj⟩ := marks_open ht
    injection e with e _
    rw [add_plain, e] at hc
    exact ⟨b, off, p, k, c, rfl, hc, hk, hj⟩
set_option maxRecDepth 100000 in
/-- Starting values wherever they stand. -/
theorem inits_open {n : Nat} {cs : List Value} {x : DataW H × List MemPlace} (h : DataW.trod enc Tryz.prog w base sp held n 22 cs = some x) :
    ∃ q len cap, cs = [.slice q len cap] ∧ len ≤ maxLen ∧ (len ≤ 1000000 → ∃ l : List (Nat × Nat), l.length = len ∧ (∀ a ∈ l, a.1 < 256 ∧ a.2 < 18446744073709551616) ∧ Inits w (.slice q len cap) l) := by
  rcases open_slice Tryz.underlying22 h with ⟨hcs, _⟩ | ⟨a, len, cap, m, n', D, Pl, hcs, _, hl, hm, hmm, _, hi⟩
  · exact ⟨none, 0, 0, hcs, Nat.zero_le _, fun _ => ⟨[], rfl, (fun a ha => by cases ha), .inl ⟨rfl, _, _, rfl⟩⟩⟩
  · refine ⟨some a, len, cap, hcs, by omega, fun hlen => ?_⟩
    have hml : len ≤ m := by rw [hmm]; split <;> omega
    cases len with
    | zero => exact ⟨[], rfl, (fun a ha => by cases ha), .inl ⟨rfl, _, _, rfl⟩⟩
    | succ k =>
      rw [init_cells] at hi
      obtain ⟨b, off, spot⟩ := a
      have hspot : spot = none := by
        obtain ⟨cs, hc, ht⟩ := hi 0 (by omega)
        obtain ⟨_, hcl, hcc⟩ := World.cells?_some hc
        have h0 := hcc 0 (by omega)
        rw [List.getElem?_eq_getElem (by omega)] at h0
        have := World.cell?_spot h0
        simpa [Addr.add] using this
      subst hspot
      have each : ∀ i, i < k + 1 → ∃ a : Nat × Nat, (a.1 < 256 ∧ a.2 < 18446744073709551616) ∧ w.cell? ⟨b, off + i * 2, none⟩ = some (.int .u8 a.1) ∧ w.cell? ⟨b, off + i * 2 + 1, none⟩ = some (.int .u64 a.2) := fun i hik => by
        obtain ⟨cs, hc, ht⟩ := hi i (by omega)
        obtain ⟨_, hcl, hcc⟩ := World.cells?_some hc
        obtain ⟨xs, n', _, _, _, hxl, hf⟩ := DataW.trod_struct init_under ht
        obtain ⟨z0, h0, w0⟩ := field_int init_f0 hxl hf
        obtain ⟨z1, h1, w1⟩ := field_int init_f1 hxl hf
        obtain ⟨n0, rfl, b0⟩ := nat_of_u8 w0
        obtain ⟨n1, rfl, b1⟩ := nat_of_u64 w1
        have c0 := hcc 0 (by omega)
        have c1 := hcc 1 (by omega)
        rw [add_plain, add_plain] at c0 c1
        exact ⟨(n0, n1), ⟨b0, b1⟩, c0.trans h0, c1.trans h1⟩
      obtain ⟨l, hll, hq⟩ := list_of each
      refine ⟨l, hll, fun a ha => ?_, .inr ⟨b, off, cap, by rw [hll], trivial, by rw [hll]; exact hlen, fun j u hu => ?_⟩⟩
      · obtain ⟨i, hi'⟩ := List.getElem?_of_mem ha
        exact (hq i a hi').1
      · have hj : j < (l.flatMap initCell).length := (List.getElem?_eq_some_iff.1 hu).1
        have hfl : (l.flatMap initCell).length = 2 * l.length := by
          clear hu hj hq hll
          induction l with
          | nil => rfl
          | cons a l ih => rw [List.flatMap_cons, List.length_append, ih]; simp only [initCell, List.length_cons, List.length_nil]; omega
        have hi2 : j / 2 < l.length := by omega
        have hx : l[j / 2]? = some l[j / 2] := List.getElem?_eq_getElem hi2
        have h1 := initCells_at l (j / 2) _ hx
        have h2 := (hq (j / 2) _ hx).2
        by_cases hp : j % 2 = 0
        · have e : j / 2 * 2 = j := by omega
          rw [e] at h1 h2
          rw [h1.1] at hu
          rw [h2.1, ← Option.some.inj hu]
        · have e : j / 2 * 2 + 1 = j := by omega
          rw [show off + j / 2 * 2 + 1 = off + (j / 2 * 2 + 1) by omega, e] at h2
          rw [e] at h1
          rw [h1.2] at hu
          rw [h2.2, ← Option.some.inj hu]
theorem marks_list {p : Option Addr} {n : Nat} {c : Nat} (hm : ∀ j, j < n → ∃ g' o', p = some ⟨g', o', none⟩ ∧ MarkO w g' (o' + j * 6)) (hs : rowSmall w p n) : ∃ l : List Mark, l.length = n ∧ (∀ x ∈ l, x.bd) ∧ lean l ∧ MRow w (.slice p n c) l := by
  have each : ∀ j, j < n → ∃ x : Mark, (x.bd ∧ slim x) ∧ ∃ g o av bv, p = some ⟨g, o, none⟩ ∧ MarkAt w g (o + j * 6) x av bv := fun j hj => by
    obtain ⟨g, o, rfl, kd, rg, md, lc, pa, na, ca, pb, nb, cb, b0, b1, b2, b3, c0, c1, c2, c3, c4, c5, _, _, ra, rb⟩ := hm j hj
    have h1 := hs.2 j g o hj rfl
    have ha := h1.1 pa na ca c4
    have hb := h1.2 pb nb cb c5
    obtain ⟨la, hla, hba, hra⟩ := ra (by omega)
    obtain ⟨lb, hlb, hbb, hrb⟩ := rb (by omega)
    exact ⟨⟨kd, rg, md, lc, la, lb⟩, ⟨⟨b0, b1, b2, b3, hba, hbb⟩, ⟨by show la.length ≤ 30; omega, by show lb.length ≤ 30; omega⟩⟩, g, o, _, _, rfl, c0, c1, c2, c3, c4, c5, hra, hrb⟩
  obtain ⟨l, hll, hq⟩ := list_of each
  have h60 := hs.1
  refine ⟨l, hll, fun x hx => ?_, ⟨by omega, fun i x hx => (hq i x hx).1.2⟩, ?_⟩
  · obtain ⟨i, hi⟩ := List.getElem?_of_mem hx
    exact (hq i x hi).1.1
  · cases n with
    | zero => exact .inl ⟨List.length_eq_zero_iff.1 hll, p, c, rfl⟩
    | succ k =>
      obtain ⟨g, o, hp, _⟩ := hm 0 (by omega)
      refine .inr ⟨g, o, c, by rw [hp, hll], by omega, fun i x hx => ?_⟩
      obtain ⟨g', o', av, bv, hp', hmk⟩ := (hq i x hx).2
      rw [hp] at hp'
      injection hp' with hp'
      injection hp' with h1 h2
      subst h1 h2
      exact ⟨av, bv, hmk⟩
set_option maxRecDepth 100000 in
theorem test_open {v : Value} {d : DataW H} {p : List MemPlace} (hv : Value.okWide Tryz.prog w .any base 26 v) (h : DataW.Trod enc Tryz.prog w 0 sp held 26 v d p) :
    ∃ pi ni ci pt nt ct al pa na ca, v = .agg #[.slice pi ni ci, .slice pt nt ct, .bool al, .slice pa na ca] ∧ ArgV w pi ni ci pt nt ct al pa na ca := by
  obtain ⟨cs, rfl, hsz⟩ := okWide_struct test_under hv
  rw [test_cells] at hsz
  obtain ⟨n, hn⟩ := h
  obtain ⟨xs, n', _, _, _, hxl, hf⟩ := DataW.trod_struct test_under hn
  obtain ⟨x0, h0⟩ := field_at test_f0 hxl hf
  obtain ⟨x1, h1⟩ := field_at test_f1 hxl hf
  obtain ⟨x3, h3⟩ := field_at test_f3 hxl hf
  have h2 : ∃ al : Bool, cs.toList[2]? = some (.bool al) := by
    obtain ⟨f, hf', he⟩ := Option.map_eq_some_iff.1 test_f2
    simp only [Prod.mk.injEq] at he
    obtain ⟨hu, ho, hc⟩ := he
    have hj : 2 < xs.length := by rw [hxl]; exact (Array.getElem?_eq_some_iff.1 hf').1
    have h1 := hf 2 f hf'
    rw [List.getElem?_eq_getElem hj] at h1
    obtain ⟨b, hb, _⟩ := DataW.trod_bool hu h1
    rw [hc, ho] at hb
    exact ⟨b, one_cell hb⟩
  obtain ⟨al, e2⟩ := h2
  obtain ⟨pi, ni, ci, e0, l0, r0⟩ := inits_open h0
  obtain ⟨pt, nt, ct, e1, l1, r1⟩ := threads_open h1
  obtain ⟨pa, na, ca, e3, l3, r3⟩ := items_open h3
  have e0 := one_cell e0
  have e1 := one_cell e1
  have e3 := one_cell e3
  have hcs : cs = #[.slice pi ni ci, .slice pt nt ct, .bool al, .slice pa na ca] := by
    apply Array.ext_getElem? fun i => ?_
    simp only [Value.cells] at e0 e1 e3
    by_cases hi : i < 4
    · obtain rfl | rfl | rfl | rfl : i = 0 ∨ i = 1 ∨ i = 2 ∨ i = 3 := by omega
      · simpa using e0
      · simpa using e1
      · simpa using e2
      · simpa using e3
    · rw [Array.getElem?_eq_none (by omega), Array.getElem?_eq_none (by simp; omega)]
  unfold maxLen at l0 l1 l3 r1
  refine ⟨pi, ni, ci, pt, nt, ct, al, pa, na, ca, by rw [hcs], l0, l1, l3, fun i hi => ?_, fun hs => ?_⟩
  · obtain ⟨g, o, p, k, c, hp, hc, hk, hm⟩ := r1 i hi
    refine ⟨g, o, p, k, c, hp, hc, hk, fun _ j hj => ?_⟩
    obtain ⟨g', o', hp', kd, rg, md, lc, pa, na, ca, pb, nb, cb, b0, b1, b2, b3, c0, c1, c2, c3, c4, c5, la, lb, _⟩ := hm j hj
    unfold maxLen at la lb
    exact ⟨g', o', pa, na, ca, pb, nb, cb, hp', c4, c5, la, lb⟩
  · obtain ⟨li, hli, hbi, hri⟩ := r0 (by have := hs.init; omega)
    obtain ⟨la, hla, hba, hra⟩ := r3 (by have := hs.ask; omega)
    have each : ∀ i, i < nt → ∃ l : List Mark, ((∀ x ∈ l, x.bd) ∧ lean l) ∧ ∃ g o u, pt = some ⟨g, o, none⟩ ∧ w.cell? ⟨g, o + i, none⟩ = some u ∧ MRow w u l := fun i hi => by
      obtain ⟨g, o, p, k, c, hp, hc, _, hm⟩ := r1 i hi
      obtain ⟨l, _, hb, hl, hr⟩ := marks_list (c := c) hm (hs.each i hi g o p k c hp hc)
      exact ⟨l, ⟨hb, hl⟩, g, o, _, hp, hc, hr⟩
    obtain ⟨lt, hlt, hq⟩ := list_of each
    have hMR : MRows w (.slice pt nt ct) lt := by
      have hv : ∃ vs : List Value, vs.length = nt ∧ ∀ i u, vs[i]? = some u → ∃ g o, pt = some ⟨g, o, none⟩ ∧ w.cell? ⟨g, o + i, none⟩ = some u := by
        refine list_of (Q := fun i u => ∃ g o, pt = some ⟨g, o, none⟩ ∧ w.cell? ⟨g, o + i, none⟩ = some u) fun i hi => ?_
        obtain ⟨g, o, p, k, c, hp, hc, _⟩ := r1 i hi
        exact ⟨_, g, o, hp, hc⟩
      obtain ⟨vs, hvl, hvs⟩ := hv
      refine ⟨vs, ?_, by omega, fun i l u hl hu => ?_⟩
      · rw [hlt]
        cases nt with
        | zero => exact .inl ⟨rfl, pt, ct, rfl⟩
        | succ k =>
          obtain ⟨g, o, p, _, c, hp, _⟩ := r1 0 (by omega)
          refine .inr ⟨g, o, ct, by rw [hp], trivial, by have := hs.threads; omega, fun j u hu => ?_⟩
          obtain ⟨g', o', hp', hc⟩ := hvs j u hu
          rw [hp] at hp'
          injection hp' with hp'
          injection hp' with h1 h2
          subst h1 h2
          exact hc
      · obtain ⟨g, o, u', hp, hc, hm⟩ := (hq i l hl).2
        obtain ⟨g', o', hp', hc'⟩ := hvs i u hu
        rw [hp] at hp'
        injection hp' with hp'
        injection hp' with h1 h2
        subst h1 h2
        rw [hc] at hc'
        rw [← Option.some.inj hc']; exact hm
    refine ⟨⟨li, lt, al, la⟩, rfl, ⟨hri, hMR, hra⟩, ⟨by show lt.length ≤ 8; have := hs.threads; omega, by show li.length ≤ 10; have := hs.init; omega, by show la.length ≤ 30; have := hs.ask; omega, fun i l hl => (hq i l hl).1.2⟩, hba, hbi, fun l hl => ?_⟩
    obtain ⟨i, hi⟩ := List.getElem?_of_mem hl
    exact (hq i l hi).1.1
end
end Go.Proofs.YtpdpofoicdijlaaGreatDoor.Prog
namespace Go.Proofs.YtpdpofoicdijlaaGreatDoor.ProgUnlike
open Go.RowKit Go.ChangeShapes Go.WideShapes Go.ChangeAt Go.Proofs.YtpdpofoicdijlaaGreatDoor.Card Go.Proofs.YtpdpofoicdijlaaGreatDoor.Expr Go.Proofs.YtpdpofoicdijlaaGreatDoor.Prog

theorem gMode : Tryz.prog.globalNamed "troth/prog.modeTexts" = some 0 := by kernel_rfl
theorem gModeType : (Tryz.prog.globals[0]?).map (·.type) = some 191 := by kernel_rfl
theorem modeAt_of {w : World} (h : Num.StrIs Tryz.prog w "troth/prog.modeTexts" modes) : ModeAt w := by
  have hc := fun (i : Nat) (hi : i < 7) => h.cell gMode i (by simpa [modes] using hi)
  refine ⟨?_, hc⟩
  have h0 := hc 0 (by omega)
  apply Nat.lt_of_not_le
  intro hle
  have hn : w.heap[0]? = none := Array.getElem?_eq_none hle
  simp [World.cell?, hn] at h0
theorem all_of {W : World} (h : laidMetH Tryz.prog Rows.progUnlikeRow.laid W) : All W := by
  have h' : laidMet Tryz.prog Rows.progUnlikeRow.laid W := h
  refine ⟨⟨textsAt_of (strs_of_reads gTexts gTextsType Tryz.underlying222 Tryz.underlying9 (by kernel_rfl) (by kernel_rfl) (Lib.laidMet.reads h' ?_)), tab_of_reads gPow gPowType Tryz.underlying219 Tryz.underlying52 (by kernel_rfl) (by kernel_rfl) (Lib.laidMet.reads h' ?_)⟩,
    modeAt_of (strs_of_reads gMode gModeType Tryz.underlying191 Tryz.underlying9 (by kernel_rfl) (by kernel_rfl) (Lib.laidMet.reads h' ?_))⟩
  · exact .tail _ (.tail _ (.tail _ (.head _)))
  · exact .tail _ (.tail _ (.head _))
  · exact .tail _ (.tail _ (.tail _ (.tail _ (.head _))))
/-- A world for the witness: the settled one, with the tables as their initialisers lay them. -/
noncomputable def laidWorld (os : Os) : World :=
  { World.holding Tryz.prog os ⟨#[], #[], []⟩ with heap := (((((World.holding Tryz.prog os ⟨#[], #[], []⟩).heap.modify 2 (layOne Rows.laid_troth_num_texts)).modify 1 (layOne Rows.laid_internal_strconv_uint64pow10)).modify
      4 (layOne Rows.laid_math_bits_deBruijn32tab)).modify 5 (layOne Rows.laid_math_bits_deBruijn64tab)).modify 0 (layOne Rows.laid_troth_prog_modeTexts) }

theorem readable_rows : ∀ t ∈ #[26, 26].toList, Tryz.prog.readableRec t = true ∧ t < Tryz.prog.types.size := by
  intro t ht
  obtain rfl : t = 26 := by simpa using ht
  exact ⟨by kernel_rfl, of_decide_eq_true (by kernel_rfl)⟩
set_option maxRecDepth 100000 in
theorem contract (H : Type) (enc : TypeId × Value → H) (W : World) (base : Nat) (args : Array Value) (ds gs : List (DataW H)) (before : List MemPlace)
    (hval : ∀ (j : Nat) t v, Tryz.f3.params[j]? = some t → args[j]? = some v → Value.okWide Tryz.prog W .any base t v)
    (hW : DataW.Whole enc Tryz.prog Tryz.f3.params.toList Rows.progUnlikeSpec.vars false W args.toList ds gs before) (hL : laidMetH Tryz.prog Rows.progUnlikeRow.laid W) :
    Calls Tryz.prog 3 args W fun e W' => ∃ v, e = .returned v ∧ Rows.progUnlikeSpec.post enc Tryz.prog Tryz.f3 false true false false W args v W' := by
  have hW' := hW
  obtain ⟨p, q, hA0, hV, rfl, hfz, hnd⟩ := hW
  have hA : DataW.TrodAll enc Tryz.prog W 0 (fun _ => true) true Tryz.f3.params.toList args.toList ds p := hA0
  rw [Tryz.params3] at hA hval
  have hAk := hA
  obtain ⟨v0, vs0, d0, ds0, p0, q0, hargs, rfl, rfl, h0, r0⟩ := trodAll_cons hA
  obtain ⟨v1, vs1, d1, ds1, p1, q1, rfl, rfl, rfl, h1, r1⟩ := trodAll_cons r0
  obtain ⟨rfl, rfl, rfl⟩ := trodAll_nil r1
  obtain rfl : args = #[v0, v1] := by cases args; simp_all
  obtain ⟨rfl, rfl⟩ := trodVars_none hV
  obtain ⟨pi, ni, ci, pt, nt, ct, al, pa, na, ca, rfl, hS⟩ := test_open (hval 0 26 v0 rfl rfl) h0
  obtain ⟨pi', ni', ci', pt', nt', ct', al', pa', na', ca', rfl, hT⟩ := test_open (hval 1 26 v1 rfl rfl) h1
  clear hA0
  simp only [List.append_nil] at hW' hAk
  refine (unlike_any pi ni ci pt nt ct al pa na ca pi' ni' ci' pt' nt' ct' al' pa' na' ca' W hS hT (all_of hL)).mono fun e W' ⟨he, hg⟩ => ?_
  subst he
  have hlt : ∀ x ∈ p0 ++ p1, x.block < W.heap.size := fun x hx => hW'.lt x hx
  exact ⟨_, rfl, post_below (pv := []) hW' (fun _ _ _ => trodAll_cons_mk (shut_bool Tryz.underlying4 _) trodAll_mk0)
    (fun sp hsp => trodAll_below laidOut hg (by rw [Tryz.params3]; exact readable_rows) hAk hlt hsp)
    (fun _ _ => rfl) (by simp) hg (ok_one (by kernel_rfl) rfl (okWide_bool_mk Tryz.underlying4 _))⟩

theorem laid_met (os : Os) : laidMet Tryz.prog Rows.progUnlikeRow.laid ((laidWorld os).forCall (fun _ _ => 0) ⟨#[], #[.agg #[.slice none 0 0, .slice none 0 0, .bool false, .slice none 0 0], .agg #[.slice none 0 0, .slice none 0 0, .bool false, .slice none 0 0]], []⟩).memory :=
  laidMet_of_run' 8 (by kernel_rfl) (by kernel_rfl)
theorem reads (os : Os) {H : Type} (enc : TypeId × Value → H) : ∃ places, DataW.whole enc Tryz.prog ((laidWorld os).forCall (fun _ _ => 0) ⟨#[], #[.agg #[.slice none 0 0, .slice none 0 0, .bool false, .slice none 0 0], .agg #[.slice none 0 0, .slice none 0 0, .bool false, .slice none 0 0]], []⟩).memory Tryz.f3.params.toList Rows.progUnlikeSpec.vars false #[Value.agg #[.slice none 0 0, .slice none 0 0, .bool false, .slice none 0 0], .agg #[.slice none 0 0, .slice none 0 0, .bool false, .slice none 0 0]].toList 8 = some ([.agg [.nil, .nil, .lit (.bool false), .nil], .agg [.nil, .nil, .lit (.bool false), .nil]], [], places) :=
  ⟨[], by kernel_rfl⟩

set_option maxRecDepth 100000 in
theorem lifted (os : Os) (started : os.Started) (H : Type) (enc : TypeId × Value → H) (F : Stop.Interp) :
    ReturnsInHanded {} Tryz.checked os 3 .any ((OpenSpec.ofChange Rows.progUnlikeSpec).preRow enc Tryz.prog Tryz.f3 Rows.progUnlikeRow.domain false Rows.progUnlikeRow.laid) (((OpenSpec.ofChange Rows.progUnlikeSpec).at F).post enc Tryz.prog Tryz.f3 false true false false) := by
  obtain ⟨places, hx⟩ := reads os enc
  refine returnsInHanded_of_row (C := Tryz.checked) (s := OpenSpec.ofChange Rows.progUnlikeSpec) own started (by kernel_rfl) Tryz.func3
    (witness_row_at (enc := enc) (C := Tryz.checked) false (laidWorld os) #[.agg #[.slice none 0 0, .slice none 0 0, .bool false, .slice none 0 0], .agg #[.slice none 0 0, .slice none 0 0, .bool false, .slice none 0 0]] rfl (by kernel_rfl) (by kernel_rfl) (by kernel_rfl)
      (OpenSpec.preRow_of_cond 8 hx (by kernel_rfl) (fun k hk => by cases hk) (by kernel_rfl) (laid_met os))) ?_
  intro W base args ds gs before hval hW _ _ _ hL _ _
  exact contract H enc W base args ds gs before hval hW hL

theorem said : Rows.ProgUnlikeSaid :=
  OpenClaim.holds_of_cond 3 Tryz.f3 rfl rfl rfl rfl rfl rfl rfl ⟨rfl, rfl, rfl, rfl, rfl⟩ rfl rfl rfl rfl rfl (by kernel_rfl) Tryz.func3 (by kernel_rfl)
    (of_decide_eq_true (by kernel_rfl)) (by unfold Func.isWrapper; first | (rw [if_pos (by decide +kernel)]; kernel_rfl) | (rw [if_neg (by decide +kernel)]; exact ⟨rfl, rfl⟩))
    (fun os started H enc _ F => by rw [OpenClaim.pre_eq_preRow]; exact lifted os started H enc F)
theorem plain (f : FuncId) (fn : Func) (hf : Tryz.pinned.checked.prog.funcNamed "troth/trothlaw04.ProgUnlike" = some f) (hfn : Tryz.pinned.checked.prog.funcs[f]? = some fn) :
    true = Tryz.pinned.checked.prog.looks [] ∧ ∀ (j : Nat) t, fn.params[j]? = some t → Tryz.pinned.checked.prog.wantsStandIn t = false := by
  obtain rfl : f = 3 := Option.some.inj ((show Tryz.prog.funcNamed "troth/trothlaw04.ProgUnlike" = some 3 by kernel_rfl).symm.trans hf) |>.symm
  obtain rfl : fn = Tryz.f3 := (Option.some.inj (Tryz.func3.symm.trans hfn)).symm
  refine ⟨by kernel_rfl, fun j t ht => ?_⟩
  rw [Tryz.params3] at ht
  have hm : t ∈ #[26, 26] := Array.mem_of_getElem? ht
  obtain rfl : t = 26 := by simpa using hm
  exact (show Tryz.prog.wantsStandIn 26 = false by kernel_rfl)

theorem card : Rows.ProgUnlikeCardSaid :=
  Claim7.holds_tied_plain_at .later [] _ _ _ _ said (fun _ h => by cases h) (by kernel_rfl) (fun _ h => by cases h) progUnlike_row_tie rfl ⟨rfl, rfl⟩ (by kernel_rfl) rfl plain (by kernel_rfl)
end Go.Proofs.YtpdpofoicdijlaaGreatDoor.ProgUnlike
