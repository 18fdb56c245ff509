/- Layer 4 (prog): tests of rows of marks in memory; which are too great. -/
import Derived.Test.YtpdpofoicdijlaaGreatDoorStmK
import Derived.Test.YtpdpofoicdijlaaGreatDoorStmE
namespace Go.Proofs.YtpdpofoicdijlaaGreatDoor.Prog
open Go.RowKit Go.Proofs.YtpdpofoicdijlaaGreatDoor.Mem Go.Proofs.YtpdpofoicdijlaaGreatDoor.Expr Go.Lib

/-- A test as the document's rows. -/
structure Rt where
  init : List (Nat × Nat)
  threads : List (List Mark)
  all : Bool
  ask : List It
def MRows (w : World) (v : Value) (ls : List (List Mark)) : Prop := ∃ vs : List Value, RowAt any_ w v ls.length vs ∧ vs.length = ls.length ∧ ∀ (i : Nat) (l : List Mark) (u : Value), ls[i]? = some l → vs[i]? = some u → MRow w u l
structure RtV (w : World) (t : Rt) (vi vt va : Value) : Prop where
  init : Inits w vi t.init
  threads : MRows w vt t.threads
  ask : Row w va t.ask
section
variable {w w' : World} {v : Value} {ls : List (List Mark)}
theorem MRows.below (h : MRows w v ls) (hb : Below w.heap.size w w') : MRows w' v ls := by
  obtain ⟨vs, h1, h2, h3⟩ := h
  exact ⟨vs, h1.below hb, h2, fun i l u hl hu => (h3 i l u hl hu).below hb⟩
theorem MRows.len (h : MRows w v ls) : ∃ p cap, v = .slice p ls.length cap ∧ ls.length ≤ 1000000 := by
  obtain ⟨vs, h1, _⟩ := h
  exact h1.len
theorem MRows.at (h : MRows w v ls) {i : Nat} {l : List Mark} (hl : ls[i]? = some l) : ∃ g o cap u, v = .slice (some ⟨g, o, none⟩) ls.length cap ∧ i < ls.length ∧ w.cell? ⟨g, o + i, none⟩ = some u ∧ MRow w u l := by
  obtain ⟨vs, h1, h2, h3⟩ := h
  have hi := (List.getElem?_eq_some_iff.1 hl).1
  have hv : vs[i]? = some vs[i] := List.getElem?_eq_getElem (by omega)
  rcases h1 with ⟨h0, _⟩ | ⟨g, o, cap, e, _, _, hc⟩
  · omega
  · exact ⟨g, o, cap, _, e, hi, hc i _ hv, h3 i l _ hl hv⟩
theorem RtV.below {t : Rt} {vi vt va : Value} (h : RtV w t vi vt va) (hb : Below w.heap.size w w') : RtV w' t vi vt va := ⟨h.init.below hb, h.threads.below hb, h.ask.below hb⟩
end
def rtCells (vi vt : Value) (all : Bool) (va : Value) : Array Value := #[vi, vt, .bool all, va]
def slim (x : Mark) : Prop := x.a.length ≤ 30 ∧ x.b.length ≤ 30
/-- A row that is not too great. -/
def lean (l : List Mark) : Prop := l.length ≤ 60 ∧ ∀ (i : Nat) (x : Mark), l[i]? = some x → slim x
structure Rt.meek (t : Rt) : Prop where
  threads : t.threads.length ≤ 8
  init : t.init.length ≤ 10
  ask : t.ask.length ≤ 30
  each : ∀ (i : Nat) (l : List Mark), t.threads[i]? = some l → lean l
def Told (p : Prop) (w : World) (e : Ending) (w' : World) : Prop := ∃ z, e = .returned (.bool z) ∧ (z = true → p) ∧ Below w.heap.size w w'
def Told0 (p : Prop) (w : World) (e : Ending) (w' : World) : Prop := ∃ z, e = .returned (.bool z) ∧ (z = false → p) ∧ Below w.heap.size w w'
set_option maxRecDepth 100000 in
set_option maxHeartbeats 2000000 in
theorem great_any (t : Rt) (vi vt va : Value) (w : World) (hT : RtV w t vi vt va) : Calls Tryz.prog 6 #[.agg (rtCells vi vt t.all va)] w (Told0 t.meek w) := by
  obtain ⟨pi, ci, rfl⟩ := hT.init.len
  obtain ⟨pt, ct, rfl, hlt⟩ := hT.threads.len
  obtain ⟨pa, ca, rfl, hla⟩ := hT.ask.len
  obtain ⟨li, lt, al, la⟩ := t
  simp only at hT hlt hla ⊢
  have hli : li.length ≤ 1000000 := by obtain ⟨_, _, _, h⟩ := RowAt.len hT.init; exact h
  have HT := Lib.hid hT
  have hb : Below w.heap.size w (w.alloc (.cells #[.slice pi li.length ci, .slice pt lt.length ct, .bool al, .slice pa la.length ca] 26)) := (Below.refl _ _).alloc (Nat.le_refl _) _
  have HB0 := Lib.hid hb
  have HBX := Lib.hid (Sits.new w 26 #[.slice pi li.length ci, .slice pt lt.length ct, .bool al, .slice pa la.length ca])
  have j1 : (lt.length : Int) ≤ 1000000 := by omega
  have j2 : (li.length : Int) ≤ 1000000 := by omega
  have j3 : (la.length : Int) ≤ 1000000 := by omega
  unfold rtCells
  clear hT hb
  by_cases h1 : 8 < lt.length
  · have k1 : (8 : Int) < (lt.length : Int) := by omega
    clear h1
    go_enter Tryz.func6, Tryz.ntmps6
    go_wp2_with fail
    go_ret
    exact ⟨true, rfl, by simp, HB0.out⟩
  have k1 : ¬ (8 : Int) < (lt.length : Int) := by omega
  by_cases h2 : 10 < li.length
  · have k2 : (10 : Int) < (li.length : Int) := by omega
    clear h1 h2
    go_enter Tryz.func6, Tryz.ntmps6
    go_wp2_with fail
    go_ret
    exact ⟨true, rfl, by simp, HB0.out⟩
  have k2 : ¬ (10 : Int) < (li.length : Int) := by omega
  by_cases h3 : 30 < la.length
  · have k3 : (30 : Int) < (la.length : Int) := by omega
    clear h1 h2 h3
    go_enter Tryz.func6, Tryz.ntmps6
    go_wp2_with fail
    go_ret
    exact ⟨true, rfl, by simp, HB0.out⟩
  have k3 : ¬ (30 : Int) < (la.length : Int) := by omega
  have HN := Lib.hid (show lt.length ≤ 8 ∧ li.length ≤ 10 ∧ la.length ≤ 30 by omega)
  clear h1 h2 h3 hli hla hlt
  go_enter Tryz.func6, Tryz.ntmps6
  go_wp2_with fail
  generalize w.alloc (.cells #[.slice pi li.length ci, .slice pt lt.length ct, .bool al, .slice pa la.length ca] 26) = w1 at HB0 HBX ⊢
  generalize w.heap.size = gb at HBX ⊢
  go_loopg [3] lt.length (fun gg v3 wx => ∃ j, j ≤ lt.length ∧ gg = lt.length - j ∧ v3 = .int .i64 (j : Nat) ∧ Hid (Below w1.heap.size w1 wx) ∧ Hid (∀ (i : Nat) (l : List Mark), i < j → lt[i]? = some l → lean l))
  case atStart => exact ⟨0, by omega, by omega, rfl, Lib.hid (Below.refl _ _), Lib.hid fun i l h => by omega⟩
  case round =>
    obtain ⟨j, hj, rfl, rfl, HBj, HF⟩ := hrel
    have hbx := HBX.out.below HBj.out HBX.out.lt
    have c1 : wr.cell? ⟨gb, 1, none⟩ = some (.slice pt lt.length ct) := hbx.cell 1
    have lb := hbx.lt
    clear hbx
    by_cases hlt : j < lt.length
    · have hx : lt[j]? = some lt[j] := List.getElem?_eq_getElem hlt
      generalize lt[j] = l at hx
      obtain ⟨g, o, cap', u, e1, _, hc, hm⟩ := (((HT.out.below HB0.out).below HBj.out).threads).at hx
      injection e1 with e1 _ e2
      subst e1 e2
      obtain ⟨pl, cl, rfl, hll⟩ := hm.len
      have HMR := Lib.hid hm
      have lg := World.block_lt_of_cell? _ _ hc
      have m1 : (j : Int) < (lt.length : Int) := by omega
      have m2 : (0 : Int) ≤ (j : Int) := by omega
      have m3 : (l.length : Int) ≤ 1000000 := by omega
      have HX := Lib.hid hx
      have HJ := Lib.hid hlt
      clear hx hm hll hlt hj
      by_cases h60 : 60 < l.length
      · have n1 : (60 : Int) < (l.length : Int) := by omega
        clear h60
        go_wp2_with fail
        go_ret
        exact ⟨true, rfl, by simp, HB0.out.trans (HBj.out.mono HB0.out.size)⟩
      have n1 : ¬ (60 : Int) < (l.length : Int) := by omega
      have H60 := Lib.hid (show l.length ≤ 60 by omega)
      clear h60
      go_wp2_with fail
      generalize wr = w2 at HMR HBj ⊢
      go_loopg [5] l.length (fun gg v5 wx => ∃ k, k ≤ l.length ∧ gg = l.length - k ∧ v5 = .int .i64 (k : Nat) ∧ Hid (Below w1.heap.size w1 wx) ∧ Hid (Below w2.heap.size w2 wx) ∧ Hid (∀ (i : Nat) (x : Mark), i < k → l[i]? = some x → slim x))
      case atStart => exact ⟨0, by omega, by omega, rfl, HBj, Lib.hid (Below.refl _ _), Lib.hid fun i x h => by omega⟩
      case round =>
        obtain ⟨k, hk, rfl, rfl, HBk, HBk2, HG⟩ := hrel
        have q1 : (k : Int) ≤ 1000000 := by omega
        have q0 : (0 : Int) ≤ (k : Int) := by omega
        by_cases hkl : k < l.length
        · have hx : l[k]? = some l[k] := List.getElem?_eq_getElem hkl
          generalize l[k] = x at hx
          obtain ⟨g, o, cap', av, bv, e1, _, hmk⟩ := (HMR.out.below HBk2.out).at hx
          injection e1 with e1 _ e2
          subst e1 e2
          obtain ⟨_, _, _, _, d4, d5, hra, hrb⟩ := hmk
          obtain ⟨pa', ca', rfl, _⟩ := hra.len
          obtain ⟨pb', cb', rfl, _⟩ := hrb.len
          have lg := World.block_lt_of_cell? _ _ d4
          have p1 : (k : Int) < (l.length : Int) := by omega
          have HX2 := Lib.hid hx
          have HK := Lib.hid hkl
          clear hx hra hrb hkl hk
          by_cases ha : 30 < x.a.length
          · have r1 : (30 : Int) < (x.a.length : Int) := by omega
            clear ha
            go_wp2_with fail
            go_ret
            exact ⟨true, rfl, by simp, HB0.out.trans (HBk.out.mono HB0.out.size)⟩
          have r1 : ¬ (30 : Int) < (x.a.length : Int) := by omega
          by_cases hb : 30 < x.b.length
          · have r2 : (30 : Int) < (x.b.length : Int) := by omega
            clear ha hb
            go_wp2_with fail
            go_ret
            exact ⟨true, rfl, by simp, HB0.out.trans (HBk.out.mono HB0.out.size)⟩
          have r2 : ¬ (30 : Int) < (x.b.length : Int) := by omega
          have HSL := Lib.hid (show slim x from ⟨by omega, by omega⟩)
          clear ha hb
          go_wp2_with fail
          go_roundg (l.length - (k + 1))
          case measure => have := HK.out; omega
          case rel => exact ⟨k + 1, HK.out, rfl, by go_num, HBk, HBk2, Lib.hid fun i y hi hy => by
            by_cases e : i < k
            · exact HG.out i y e hy
            · obtain rfl : i = k := by omega
              rw [HX2.out] at hy; cases hy; exact HSL.out⟩
        · obtain rfl : k = l.length := by omega
          have p1 : ¬ ((l.length : Int) < (l.length : Int)) := by omega
          clear hkl hk
          go_wp2_with fail
          go_roundg (lt.length - (j + 1))
          case measure => have := HJ.out; omega
          case rel => exact ⟨j + 1, HJ.out, rfl, by go_num, HBk, Lib.hid fun i y hi hy => by
            by_cases e : i < j
            · exact HF.out i y e hy
            · obtain rfl : i = j := by omega
              rw [HX.out] at hy; cases hy; exact ⟨H60.out, fun i x hx => HG.out i x (List.getElem?_eq_some_iff.1 hx).1 hx⟩⟩
    · obtain rfl : j = lt.length := by omega
      have m1 : ¬ ((lt.length : Int) < (lt.length : Int)) := by omega
      clear hlt hj
      go_wp2_with fail
      go_ret
      exact ⟨false, rfl, fun _ => ⟨HN.out.1, HN.out.2.1, HN.out.2.2, fun i l hl => HF.out i l (List.getElem?_eq_some_iff.1 hl).1 hl⟩, HB0.out.trans (HBj.out.mono HB0.out.size)⟩
end Go.Proofs.YtpdpofoicdijlaaGreatDoor.Prog
