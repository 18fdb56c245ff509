/- Layer 4 (prog): the program's test of the document's rows; which are not too deep. -/
import Derived.Test.YtpdpofoicdijlaaGreatDoorStmR
import Derived.Test.YtpdpofoicdijlaaGreatDoorStmT
namespace Go.Proofs.YtpdpofoicdijlaaGreatDoor.Prog
open Go.RowKit Go.Proofs.YtpdpofoicdijlaaGreatDoor.Mem Go.Proofs.YtpdpofoicdijlaaGreatDoor.Expr Go.Lib

/-- The block of a row, and where it ends. -/
noncomputable def blkOf (l : List Mark) : Blk := (BSp.ex l (l.length + 1) 0 (by omega)).choose
noncomputable def endOf (l : List Mark) : Nat := (BSp.ex l (l.length + 1) 0 (by omega)).choose_spec.choose
theorem blkOf_sp (l : List Mark) : BSp l 0 (blkOf l) (endOf l) := (BSp.ex l (l.length + 1) 0 (by omega)).choose_spec.choose_spec
theorem endOf_le {l : List Mark} (h : l.length ≤ 1000000) : endOf l ≤ 10000000 ∧ (blkOf l).size ≤ l.length := by
  have := (blkOf_sp l).le; omega
noncomputable def tsOf (t : Rt) : Ts := ⟨t.init, t.threads.map blkOf, t.all, exOf t.ask⟩
structure Rt.flat (t : Rt) : Prop where
  threads : ∀ (i : Nat) (l : List Mark), t.threads[i]? = some l → (blkOf l).deep ≤ 8
  init : ∀ (i : Nat) (x : Nat × Nat), t.init[i]? = some x → x.1 ≤ 127
set_option maxRecDepth 100000 in
set_option maxHeartbeats 2000000 in
theorem shallow_any (t : Rt) (vi vt va : Value) (w : World) (hT : RtV w t vi vt va) : Calls Tryz.prog 7 #[.agg (rtCells vi vt t.all va)] w (Told t.flat w) := by
  obtain ⟨pi, ci, rfl⟩ := hT.init.len
  obtain ⟨pt, ct, rfl, hlt⟩ := hT.threads.len
  obtain ⟨pa, ca, rfl, hla⟩ := hT.ask.len
  obtain ⟨li, lt, al, la⟩ := t
  simp only at hT hlt hla ⊢
  have hli : li.length ≤ 1000000 := by obtain ⟨_, _, _, h⟩ := RowAt.len hT.init; exact h
  have HT := Lib.hid hT
  have hb : Below w.heap.size w (w.alloc (.cells #[.slice pi li.length ci, .slice pt lt.length ct, .bool al, .slice pa la.length ca] 26)) := (Below.refl _ _).alloc (Nat.le_refl _) _
  have HB0 := Lib.hid hb
  have HBX := Lib.hid (Sits.new w 26 #[.slice pi li.length ci, .slice pt lt.length ct, .bool al, .slice pa la.length ca])
  have j1 : (lt.length : Int) ≤ 1000000 := by omega
  have j2 : (li.length : Int) ≤ 1000000 := by omega
  unfold rtCells
  clear hT hb hli hla hlt
  go_enter Tryz.func7, Tryz.ntmps7
  go_wp2_with fail
  generalize w.alloc (.cells #[.slice pi li.length ci, .slice pt lt.length ct, .bool al, .slice pa la.length ca] 26) = w1 at HB0 HBX ⊢
  generalize w.heap.size = gb at HBX ⊢
  go_loopg [3] lt.length (fun gg v3 wx => ∃ j, j ≤ lt.length ∧ gg = lt.length - j ∧ v3 = .int .i64 (j : Nat) ∧ Hid (Below w1.heap.size w1 wx) ∧ Hid (∀ (i : Nat) (l : List Mark), i < j → lt[i]? = some l → (blkOf l).deep ≤ 8))
  case atStart => exact ⟨0, by omega, by omega, rfl, Lib.hid (Below.refl _ _), Lib.hid fun i l h => by omega⟩
  case round =>
    obtain ⟨j, hj, rfl, rfl, HBj, HF⟩ := hrel
    have hbx := HBX.out.below HBj.out HBX.out.lt
    have c1 : wr.cell? ⟨gb, 1, none⟩ = some (.slice pt lt.length ct) := hbx.cell 1
    have lb := hbx.lt
    by_cases hlt : j < lt.length
    · have hx : lt[j]? = some lt[j] := List.getElem?_eq_getElem hlt
      generalize lt[j] = l at hx
      obtain ⟨g, o, cap', u, e1, _, hc, hm⟩ := (((HT.out.below HB0.out).below HBj.out).threads).at hx
      injection e1 with e1 _ e2
      subst e1 e2
      obtain ⟨pl, cl, rfl, hll⟩ := hm.len
      have hD := deepRow_any l (l.length + 1) 0 (endOf l) (blkOf l) (by omega) (blkOf_sp l) (endOf_le hll).1 _ wr hm
      have dd : ((blkOf l).deep : Int) ≤ 1000001 := by have := deepBlk_size (blkOf l); have := (endOf_le hll).2; omega
      have HD := Lib.hid hD
      have lg := World.block_lt_of_cell? _ _ hc
      have m1 : (j : Int) < (lt.length : Int) := by omega
      have m2 : (0 : Int) ≤ (j : Int) := by omega
      have HX := Lib.hid hx
      have HJ := Lib.hid hlt
      clear hx hm hll hlt hj hD hbx
      go_wp2_with fail
      refine HD.out.mono ?_
      rintro e' w2 ⟨rfl, hb⟩
      have HB2 := Lib.hid (HBj.out.trans (hb.mono HBj.out.size))
      clear hb
      by_cases h8 : 8 < (blkOf l).deep
      · have n1 : (8 : Int) < ((blkOf l).deep : Int) := by omega
        clear h8
        go_wp2_with fail
        go_ret
        exact ⟨false, rfl, by simp, HB0.out.trans (HB2.out.mono HB0.out.size)⟩
      have n1 : ¬ (8 : Int) < ((blkOf l).deep : Int) := by omega
      have H8 := Lib.hid (show (blkOf l).deep ≤ 8 by omega)
      clear h8
      go_wp2_with fail
      go_roundg (lt.length - (j + 1))
      case measure => have := HJ.out; omega
      case rel => exact ⟨j + 1, HJ.out, rfl, by go_num, HB2, Lib.hid fun i y hi hy => by
        by_cases e : i < j
        · exact HF.out i y e hy
        · obtain rfl : i = j := by omega
          rw [HX.out] at hy; cases hy; exact H8.out⟩
    · obtain rfl : j = lt.length := by omega
      have m1 : ¬ ((lt.length : Int) < (lt.length : Int)) := by omega
      clear hlt hj hbx
      go_wp2_with fail
      generalize wr = w3 at HBj ⊢
      go_loopg [6] li.length (fun gg v6 wx => ∃ j, j ≤ li.length ∧ gg = li.length - j ∧ v6 = .int .i64 (j : Nat) ∧ Hid (Below w1.heap.size w1 wx) ∧ Hid (∀ (i : Nat) (x : Nat × Nat), i < j → li[i]? = some x → x.1 ≤ 127))
      case atStart => exact ⟨0, by omega, by omega, rfl, HBj, Lib.hid fun i l h => by omega⟩
      case round =>
        obtain ⟨k, hk, rfl, rfl, HBk, HG⟩ := hrel
        have hbx := HBX.out.below HBk.out HBX.out.lt
        have c0 : wr.cell? ⟨gb, 0, none⟩ = some (.slice pi li.length ci) := hbx.cell 0
        have lb := hbx.lt
        by_cases hkl : k < li.length
        · have hx : li[k]? = some li[k] := List.getElem?_eq_getElem hkl
          generalize li[k] = x at hx
          have hin := ((HT.out.below HB0.out).below HBk.out).init
          obtain ⟨g, o, cap', e1, d0, _⟩ := hin.at hx
          injection e1 with e1 _ e2
          subst e1 e2
          have lg := World.block_lt_of_cell? _ _ d0
          have p1 : (k : Int) < (li.length : Int) := by omega
          have p0 : (0 : Int) ≤ (k : Int) := by omega
          have HX := Lib.hid hx
          have HK := Lib.hid hkl
          clear hx hin hkl hk hbx
          by_cases h1 : 127 < x.1
          · have n1 : (127 : Int) < (x.1 : Int) := by omega
            clear h1
            go_wp2_with fail
            go_ret
            exact ⟨false, rfl, by simp, HB0.out.trans (HBk.out.mono HB0.out.size)⟩
          have n1 : ¬ (127 : Int) < (x.1 : Int) := by omega
          have H1 := Lib.hid (show x.1 ≤ 127 by omega)
          clear h1
          go_wp2_with fail
          go_roundg (li.length - (k + 1))
          case measure => have := HK.out; omega
          case rel => exact ⟨k + 1, HK.out, rfl, by go_num, HBk, Lib.hid fun i y hi hy => by
            by_cases e : i < k
            · exact HG.out i y e hy
            · obtain rfl : i = k := by omega
              rw [HX.out] at hy; cases hy; exact H1.out⟩
        · obtain rfl : k = li.length := by omega
          have p1 : ¬ ((li.length : Int) < (li.length : Int)) := by omega
          clear hkl hk hbx
          go_wp2_with fail
          go_ret
          exact ⟨true, rfl, fun _ => ⟨fun i l hl => HF.out i l (List.getElem?_eq_some_iff.1 hl).1 hl, fun i x hx => HG.out i x (List.getElem?_eq_some_iff.1 hx).1 hx⟩, HB0.out.trans (HBk.out.mono HB0.out.size)⟩
end Go.Proofs.YtpdpofoicdijlaaGreatDoor.Prog
