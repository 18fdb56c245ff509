/- Layer 4 (prog): ProgModes. -/
import Derived.Test.YtagpkhdogkjopaaDoorStmO
namespace Go.Proofs.YtagpkhdogkjopaaDoor.Prog
open Go.RowKit Go.Proofs.YtagpkhdogkjopaaDoor.Mem Go.Proofs.YtagpkhdogkjopaaDoor.Expr Go.Lib

set_option maxRecDepth 100000 in
theorem refMode_any (m : Nat) (hm : m < 256) (w : World) : Calls Tryd.prog 6 #[.int .u8 (m : Nat)] w fun e w' => Made (.returned (.string (str (modeTxt m)))) w e w' := by
  by_cases h : 7 ≤ m
  · have i1 : (7 : Int) ≤ (m : Int) := by omega
    have HT := Lib.hid (modeTxt_none h)
    clear h
    go_enter Tryd.func6, Tryd.ntmps6
    go_wp2_with fail
    go_ret
    exact ⟨by rw [HT.out]; rfl, (Below.refl _ _).alloc (Nat.le_refl _) _⟩
  · obtain rfl | rfl | rfl | rfl | rfl | rfl | rfl : m = 0 ∨ m = 1 ∨ m = 2 ∨ m = 3 ∨ m = 4 ∨ m = 5 ∨ m = 6 := by omega
    all_goals
      clear h hm
      go_enter Tryd.func6, Tryd.ntmps6
      go_wp2_with fail
      go_ret
      exact ⟨rfl, (Below.refl _ _).alloc (Nat.le_refl _) _⟩
theorem mtick_enters : Expr.Enters 8 := enters_of Tryd.func8 (by kernel_rfl) rfl
set_option maxRecDepth 100000 in
theorem mtick (g : Nat) : Ticks 8 g where
  enters := mtick_enters
  call := fun m pa pb pt pe nt ct ne ce n w hn hC => by
    have cn := hC.cell 0
    have fn := hC.free 0
    have ln := hC.lt
    have i1 : (n : Int) ≤ 1000000000 := by omega
    have HC := Lib.hid (ticked hC (.cells #[.int .u8 m.kind, .int .u8 m.reg, .int .u8 m.mode, .int .u8 m.loc, .pointer pa, .pointer pb, .slice pt nt ct, .slice pe ne ce] 31))
    have HK := Lib.hid (((Keeps.refl (fun x => x = g) w).put (p := ⟨g, 0, none⟩) (.inl rfl) (.int .i64 ((n : Int) + 1))).alloc (.cells #[.int .u8 m.kind, .int .u8 m.reg, .int .u8 m.mode, .int .u8 m.loc, .pointer pa, .pointer pb, .slice pt nt ct, .slice pe ne ce] 31))
    unfold stAgg
    clear hC hn
    go_enter Tryd.func8, Tryd.ntmps8
    go_wp2_with fail
    go_end0
    exact ⟨rfl, HC.out, HK.out⟩
/-- So many whiles in one another. -/
def nested : Nat → Blk
  | 0 => .nil
  | d + 1 => .cons ⟨9, 0, 0, 0, some (.num 0), none⟩ (nested d) .nil .nil
theorem nested_deep (d : Nat) : (nested d).deep = d + 1 := by
  induction d with
  | zero => rfl
  | succ d ih => simp only [nested, Blk.deep, ih]; simp
theorem nested_told (d : Nat) : ∀ room, (nested d).told room = min d room := by
  induction d with
  | zero => intro room; simp [nested, Blk.told]
  | succ d ih =>
    intro room
    cases room with
    | zero => simp [Blk.told_zero]
    | succ room => simp only [nested, Blk.told, ih]; simp; omega
theorem nested_len (d : Nat) : (nested d).len = min d 1 := by
  cases d with
  | zero => rfl
  | succ d => simp [nested, Blk.len]
/-- Blocks that are there. -/
def here (w : World) : Nat → Prop := fun x => x < w.heap.size
def emptyBox : Obj := .cells (exprCells ⟨0, 0, 0, 0, 0, 0⟩ (.pointer none) (.pointer none)) 29
/-- One more while around it. -/
def aroundW (w : World) (v : Value) : World := (w.alloc emptyBox).alloc (.cells #[.int .u8 9, .int .u8 0, .int .u8 0, .int .u8 0, .pointer (some ⟨w.heap.size, 0, none⟩), .pointer none, v, .slice none 0 0] 31)
theorem around_low (w : World) (v : Value) : Below w.heap.size w (aroundW w v) := ((Below.refl _ _).alloc (Nat.le_refl _) _).alloc (by simp) _
theorem around_stand {w : World} {v : Value} {d : Nat} (h : Stand (here w) w (nested d) v) : Stand (here (aroundW w v)) (aroundW w v) (nested (d + 1)) (.slice (some ⟨w.heap.size + 1, 0, none⟩) 1 1) := by
  have hw : Stand (here (aroundW w v)) (aroundW w v) (nested d) v := (h.below (around_low w v)).wider fun x hx => Nat.lt_of_lt_of_le hx (around_low w v).size
  obtain ⟨ct, hr, hh⟩ := hw
  have hs : Sits (aroundW w v) (w.heap.size + 1) 31 (stCells ⟨9, 0, 0, 0, some (.num 0), none⟩ (.pointer (some ⟨w.heap.size, 0, none⟩)) (.pointer none) v (.slice none 0 0) ++ []).toArray := Sits.made (by simp) _ _
  exact ⟨_, rowAt_sits hs hs.lt (by decide), _, _, _, _, ct, [], [], rfl, ⟨_, _, _, rfl, (Sits.new w _ _).alloc _, rfl, rfl⟩, rfl, hr, hh, rowAt_none, rfl, rfl⟩
set_option maxRecDepth 100000 in
set_option maxHeartbeats 2000000 in
theorem pmodes_2 (m d : Nat) (hm : m < 256) (hd : d < 256) (w : World) (hX : All w) : Calls Tryd.prog 3 #[.int .u8 (m : Nat), .int .u8 (2 : Nat), .int .u8 (d : Nat)] w fun e w' => Made (.returned (.bool true)) w e w' := by
  have HMO := Lib.hid (fun W => (modes_any 2 (by decide) W).mono fun e' w' (hp : ModesMade 2 W e' w') => (show ∃ g, e' = .returned (.slice (some ⟨g, 0, none⟩) 3 3) ∧ Sits w' g 5 #[.int .u8 1, .int .u8 2, .int .u8 3] ∧ Below W.heap.size W w' from by
    obtain ⟨v, he, hs, hb⟩ := hp
    rcases hs with ⟨h0, _⟩ | ⟨g, hv, hs⟩
    · exact absurd h0 (by decide)
    · exact ⟨g, by rw [he, hv]; rfl, hs, hb⟩))
  have HX := Lib.hid hX
  have HA := Lib.hid (fun W (h : Below w.heap.size w W) => mode_any m hm W (hX.below h).2)
  have HB := Lib.hid (fun W => refMode_any m hm W)
  have HW := Lib.hid (fun W (h : Below w.heap.size w W) => woken_any W (hX.below h))
  have HD := Lib.hid hd
  have d1 : (d : Int) < 256 := by omega
  generalize str (modeTxt m) = S at HA HB
  clear hX hm hd
  go_enter Tryd.func3, Tryd.ntmps3
  go_wp2_with fail
  refine (HMO.out _).mono ?_
  rintro e w1 ⟨gl, rfl, hs, hb⟩
  have HB1 := Lib.hid hb
  have HS := Lib.hid hs
  clear hb hs HMO
  go_wp2_with fail
  refine (HA.out _ HB1.out).mono ?_
  rintro e w2 ⟨rfl, hb⟩
  have HB2 := Lib.hid (HB1.out.trans (hb.mono HB1.out.size))
  have HS2 := Lib.hid (HS.out.below hb HS.out.lt)
  clear hb
  go_wp2_with fail
  refine (HB.out _).mono ?_
  rintro e w3 ⟨rfl, hb⟩
  have HB3 := Lib.hid (HB2.out.trans (hb.mono HB2.out.size))
  have HS3 := Lib.hid (HS2.out.below hb HS2.out.lt)
  clear hb
  go_wp2_with fail
  go_loopg [9] 2 (fun gg v9 wx => ∃ i, 1 ≤ i ∧ i ≤ 3 ∧ gg = 3 - i ∧ v9 = .int .i64 (i : Nat) ∧ Hid (Below w.heap.size w wx) ∧ Hid (Sits wx gl 5 #[.int .u8 1, .int .u8 2, .int .u8 3]))
  case atStart => exact ⟨1, by omega, by omega, rfl, rfl, HB3, HS3⟩
  case round =>
    obtain ⟨i, h1, h2, rfl, rfl, HBi, HSi⟩ := hrel
    have q0 : wr.cell? ⟨gl, 0, none⟩ = some (.int .u8 1) := HSi.out.cell 0
    have q1 : wr.cell? ⟨gl, 1, none⟩ = some (.int .u8 2) := HSi.out.cell 1
    have q2 : wr.cell? ⟨gl, 2, none⟩ = some (.int .u8 3) := HSi.out.cell 2
    have lgl := HSi.out.lt
    obtain rfl | rfl | rfl : i = 1 ∨ i = 2 ∨ i = 3 := by omega
    · go_wp2_with fail
      go_region
      go_wp2_with fail
      go_roundg (1)
      case measure => omega
      case rel => exact ⟨2, by omega, by omega, rfl, by go_num, Lib.hid (by first | exact HBi.out | exact HBi.out.drew | exact drewN_below HBi.out _), Lib.hid (by first | exact HSi.out | exact HSi.out.drew)⟩
    · go_wp2_with fail
      go_region
      go_wp2_with fail
      go_roundg (0)
      case measure => omega
      case rel => exact ⟨3, by omega, by omega, rfl, by go_num, Lib.hid (by first | exact HBi.out | exact HBi.out.drew | exact drewN_below HBi.out _), Lib.hid (by first | exact HSi.out | exact HSi.out.drew)⟩
    · go_wp2_with fail
      go_loopg [10, 11] (d % 20) (fun gg v10 v11 wx => ∃ j, j ≤ d % 20 ∧ gg = d % 20 - j ∧ v11 = .int .i64 (j : Nat) ∧ Hid (Stand (here wx) wx (nested j) v10) ∧ Hid (Below w.heap.size w wx))
      case atStart => exact ⟨0, by omega, by omega, rfl, Lib.hid ⟨[], rowAt_none, rfl⟩, HBi⟩
      case round =>
        obtain ⟨j, hj, rfl, rfl, HST, HBj⟩ := hrel
        obtain ⟨p, cap, rfl, _⟩ := HST.out.len
        have dz : ((d % 20 : Nat) : Int) = (d : Int) % 20 := by omega
        by_cases hlt : j < d % 20
        · have jj : (j : Int) < (d : Int) % 20 := by omega
          have HLT := Lib.hid hlt
          clear hlt hj dz
          go_wp2_with fail
          go_roundg (d % 20 - (j + 1))
          case measure => have := HLT.out; omega
          case rel => exact ⟨j + 1, HLT.out, rfl, by go_num, Lib.hid (around_stand HST.out), Lib.hid (HBj.out.trans ((around_low _ _).mono HBj.out.size))⟩
        · obtain rfl : j = d % 20 := by omega
          have jj : ¬ (((d % 20 : Nat) : Int) < (d : Int) % 20) := by omega
          have HWK := Lib.hid (WalkSt_any _ _ (mtick wr.heap.size) (nested (d % 20)) _ 0 _ (by rw [nested_told]; omega) (Sits.new wr 3 #[.int .i64 0]) ((HST.out.below ((Below.refl _ _).alloc (Nat.le_refl _) _)).wider fun x hx => Nat.ne_of_lt hx))
          have HBC := Lib.hid (fun W' (hk : Keeps (fun x => x = wr.heap.size) (wr.alloc (.cells #[.int .i64 0] 3)) W') => (show Below wr.heap.size wr W' from behind ((Below.refl _ _).alloc (Nat.le_refl _) _) hk (by simp) (fun x e => by rw [e]; exact Nat.le_refl _)))
          have HNE := Lib.hid (fun W' (hb : Below wr.heap.size wr W') => (Nest_any (nested (d % 20)) _ W' ((HST.out.below hb).wider fun _ _ => trivial)).mono fun e' w' (hp : Made _ W' e' w') => (show e' = .returned (.int .i64 (min 9 (d % 20 + 1) : Nat)) ∧ Below W'.heap.size W' w' from ⟨by rw [hp.1, nested_deep], hp.2⟩))
          have m1 : min ((d : Int) % 20 + 1) 9 = ((min 9 (d % 20 + 1) : Nat) : Int) := by omega
          have m2 : min ((d : Int) % 20) 8 = ((min (d % 20) 8 : Nat) : Int) := by omega
          clear hlt hj dz
          go_wp2_with fail
          refine HWK.out.mono ?_
          rintro e w4 ⟨rfl, hc, hk⟩
          rw [nested_told] at hc
          have hb := HBC.out w4 hk
          have HB4 := Lib.hid (HBj.out.trans (hb.mono HBj.out.size))
          have HNC := Lib.hid (HNE.out w4 hb)
          have HC4 := Lib.hid hc
          clear hc hk hb HBC HNE
          go_wp2_with fail
          refine HNC.out.mono ?_
          rintro e w5 ⟨rfl, hb⟩
          have HB5 := Lib.hid (HB4.out.trans (hb.mono HB4.out.size))
          have h5 := HC4.out.below hb HC4.out.lt
          have c0 := h5.cell 0
          have l0 := h5.lt
          clear hb h5
          go_wp2_with fail
          refine (HW.out _ HB5.out).mono ?_
          rintro e w6 ⟨rfl, hb⟩
          have HB6 := Lib.hid (HB5.out.trans (hb.mono HB5.out.size))
          clear hb
          go_wp2_with fail
          go_ret
          exact ⟨rfl, HB6.out⟩
set_option maxRecDepth 100000 in
set_option maxHeartbeats 2000000 in
theorem pmodes_3 (m d : Nat) (hm : m < 256) (hd : d < 256) (w : World) (hX : All w) : Calls Tryd.prog 3 #[.int .u8 (m : Nat), .int .u8 (3 : Nat), .int .u8 (d : Nat)] w fun e w' => Made (.returned (.bool true)) w e w' := by
  have HMO := Lib.hid (fun W => (modes_any 3 (by decide) W).mono fun e' w' (hp : ModesMade 3 W e' w') => (show ∃ g, e' = .returned (.slice (some ⟨g, 0, none⟩) 3 3) ∧ Sits w' g 5 #[.int .u8 1, .int .u8 2, .int .u8 4] ∧ Below W.heap.size W w' from by
    obtain ⟨v, he, hs, hb⟩ := hp
    rcases hs with ⟨h0, _⟩ | ⟨g, hv, hs⟩
    · exact absurd h0 (by decide)
    · exact ⟨g, by rw [he, hv]; rfl, hs, hb⟩))
  have HX := Lib.hid hX
  have HA := Lib.hid (fun W (h : Below w.heap.size w W) => mode_any m hm W (hX.below h).2)
  have HB := Lib.hid (fun W => refMode_any m hm W)
  have HW := Lib.hid (fun W (h : Below w.heap.size w W) => woken_any W (hX.below h))
  have HD := Lib.hid hd
  have d1 : (d : Int) < 256 := by omega
  generalize str (modeTxt m) = S at HA HB
  clear hX hm hd
  go_enter Tryd.func3, Tryd.ntmps3
  go_wp2_with fail
  refine (HMO.out _).mono ?_
  rintro e w1 ⟨gl, rfl, hs, hb⟩
  have HB1 := Lib.hid hb
  have HS := Lib.hid hs
  clear hb hs HMO
  go_wp2_with fail
  refine (HA.out _ HB1.out).mono ?_
  rintro e w2 ⟨rfl, hb⟩
  have HB2 := Lib.hid (HB1.out.trans (hb.mono HB1.out.size))
  have HS2 := Lib.hid (HS.out.below hb HS.out.lt)
  clear hb
  go_wp2_with fail
  refine (HB.out _).mono ?_
  rintro e w3 ⟨rfl, hb⟩
  have HB3 := Lib.hid (HB2.out.trans (hb.mono HB2.out.size))
  have HS3 := Lib.hid (HS2.out.below hb HS2.out.lt)
  clear hb
  go_wp2_with fail
  go_loopg [9] 2 (fun gg v9 wx => ∃ i, 1 ≤ i ∧ i ≤ 3 ∧ gg = 3 - i ∧ v9 = .int .i64 (i : Nat) ∧ Hid (Below w.heap.size w wx) ∧ Hid (Sits wx gl 5 #[.int .u8 1, .int .u8 2, .int .u8 4]))
  case atStart => exact ⟨1, by omega, by omega, rfl, rfl, HB3, HS3⟩
  case round =>
    obtain ⟨i, h1, h2, rfl, rfl, HBi, HSi⟩ := hrel
    have q0 : wr.cell? ⟨gl, 0, none⟩ = some (.int .u8 1) := HSi.out.cell 0
    have q1 : wr.cell? ⟨gl, 1, none⟩ = some (.int .u8 2) := HSi.out.cell 1
    have q2 : wr.cell? ⟨gl, 2, none⟩ = some (.int .u8 4) := HSi.out.cell 2
    have lgl := HSi.out.lt
    obtain rfl | rfl | rfl : i = 1 ∨ i = 2 ∨ i = 3 := by omega
    · go_wp2_with fail
      go_region
      go_wp2_with fail
      go_roundg (1)
      case measure => omega
      case rel => exact ⟨2, by omega, by omega, rfl, by go_num, Lib.hid (by first | exact HBi.out | exact HBi.out.drew | exact drewN_below HBi.out _), Lib.hid (by first | exact HSi.out | exact HSi.out.drew)⟩
    · go_wp2_with fail
      go_region
      go_wp2_with fail
      go_roundg (0)
      case measure => omega
      case rel => exact ⟨3, by omega, by omega, rfl, by go_num, Lib.hid (by first | exact HBi.out | exact HBi.out.drew | exact drewN_below HBi.out _), Lib.hid (by first | exact HSi.out | exact HSi.out.drew)⟩
    · go_wp2_with fail
      go_loopg [10, 11] (d % 20) (fun gg v10 v11 wx => ∃ j, j ≤ d % 20 ∧ gg = d % 20 - j ∧ v11 = .int .i64 (j : Nat) ∧ Hid (Stand (here wx) wx (nested j) v10) ∧ Hid (Below w.heap.size w wx))
      case atStart => exact ⟨0, by omega, by omega, rfl, Lib.hid ⟨[], rowAt_none, rfl⟩, HBi⟩
      case round =>
        obtain ⟨j, hj, rfl, rfl, HST, HBj⟩ := hrel
        obtain ⟨p, cap, rfl, _⟩ := HST.out.len
        have dz : ((d % 20 : Nat) : Int) = (d : Int) % 20 := by omega
        by_cases hlt : j < d % 20
        · have jj : (j : Int) < (d : Int) % 20 := by omega
          have HLT := Lib.hid hlt
          clear hlt hj dz
          go_wp2_with fail
          go_roundg (d % 20 - (j + 1))
          case measure => have := HLT.out; omega
          case rel => exact ⟨j + 1, HLT.out, rfl, by go_num, Lib.hid (around_stand HST.out), Lib.hid (HBj.out.trans ((around_low _ _).mono HBj.out.size))⟩
        · obtain rfl : j = d % 20 := by omega
          have jj : ¬ (((d % 20 : Nat) : Int) < (d : Int) % 20) := by omega
          have HWK := Lib.hid (WalkSt_any _ _ (mtick wr.heap.size) (nested (d % 20)) _ 0 _ (by rw [nested_told]; omega) (Sits.new wr 3 #[.int .i64 0]) ((HST.out.below ((Below.refl _ _).alloc (Nat.le_refl _) _)).wider fun x hx => Nat.ne_of_lt hx))
          have HBC := Lib.hid (fun W' (hk : Keeps (fun x => x = wr.heap.size) (wr.alloc (.cells #[.int .i64 0] 3)) W') => (show Below wr.heap.size wr W' from behind ((Below.refl _ _).alloc (Nat.le_refl _) _) hk (by simp) (fun x e => by rw [e]; exact Nat.le_refl _)))
          have HNE := Lib.hid (fun W' (hb : Below wr.heap.size wr W') => (Nest_any (nested (d % 20)) _ W' ((HST.out.below hb).wider fun _ _ => trivial)).mono fun e' w' (hp : Made _ W' e' w') => (show e' = .returned (.int .i64 (min 9 (d % 20 + 1) : Nat)) ∧ Below W'.heap.size W' w' from ⟨by rw [hp.1, nested_deep], hp.2⟩))
          have m1 : min ((d : Int) % 20 + 1) 9 = ((min 9 (d % 20 + 1) : Nat) : Int) := by omega
          have m2 : min ((d : Int) % 20) 8 = ((min (d % 20) 8 : Nat) : Int) := by omega
          clear hlt hj dz
          go_wp2_with fail
          refine HWK.out.mono ?_
          rintro e w4 ⟨rfl, hc, hk⟩
          rw [nested_told] at hc
          have hb := HBC.out w4 hk
          have HB4 := Lib.hid (HBj.out.trans (hb.mono HBj.out.size))
          have HNC := Lib.hid (HNE.out w4 hb)
          have HC4 := Lib.hid hc
          clear hc hk hb HBC HNE
          go_wp2_with fail
          refine HNC.out.mono ?_
          rintro e w5 ⟨rfl, hb⟩
          have HB5 := Lib.hid (HB4.out.trans (hb.mono HB4.out.size))
          have h5 := HC4.out.below hb HC4.out.lt
          have c0 := h5.cell 0
          have l0 := h5.lt
          clear hb h5
          go_wp2_with fail
          refine (HW.out _ HB5.out).mono ?_
          rintro e w6 ⟨rfl, hb⟩
          have HB6 := Lib.hid (HB5.out.trans (hb.mono HB5.out.size))
          clear hb
          go_wp2_with fail
          go_ret
          exact ⟨rfl, HB6.out⟩
set_option maxRecDepth 100000 in
set_option maxHeartbeats 2000000 in
theorem pmodes_4 (m d : Nat) (hm : m < 256) (hd : d < 256) (w : World) (hX : All w) : Calls Tryd.prog 3 #[.int .u8 (m : Nat), .int .u8 (4 : Nat), .int .u8 (d : Nat)] w fun e w' => Made (.returned (.bool true)) w e w' := by
  have HMO := Lib.hid (fun W => (modes_any 4 (by decide) W).mono fun e' w' (hp : ModesMade 4 W e' w') => (show ∃ g, e' = .returned (.slice (some ⟨g, 0, none⟩) 4 4) ∧ Sits w' g 5 #[.int .u8 2, .int .u8 3, .int .u8 4, .int .u8 5] ∧ Below W.heap.size W w' from by
    obtain ⟨v, he, hs, hb⟩ := hp
    rcases hs with ⟨h0, _⟩ | ⟨g, hv, hs⟩
    · exact absurd h0 (by decide)
    · exact ⟨g, by rw [he, hv]; rfl, hs, hb⟩))
  have HX := Lib.hid hX
  have HA := Lib.hid (fun W (h : Below w.heap.size w W) => mode_any m hm W (hX.below h).2)
  have HB := Lib.hid (fun W => refMode_any m hm W)
  have HW := Lib.hid (fun W (h : Below w.heap.size w W) => woken_any W (hX.below h))
  have HD := Lib.hid hd
  have d1 : (d : Int) < 256 := by omega
  generalize str (modeTxt m) = S at HA HB
  clear hX hm hd
  go_enter Tryd.func3, Tryd.ntmps3
  go_wp2_with fail
  refine (HMO.out _).mono ?_
  rintro e w1 ⟨gl, rfl, hs, hb⟩
  have HB1 := Lib.hid hb
  have HS := Lib.hid hs
  clear hb hs HMO
  go_wp2_with fail
  refine (HA.out _ HB1.out).mono ?_
  rintro e w2 ⟨rfl, hb⟩
  have HB2 := Lib.hid (HB1.out.trans (hb.mono HB1.out.size))
  have HS2 := Lib.hid (HS.out.below hb HS.out.lt)
  clear hb
  go_wp2_with fail
  refine (HB.out _).mono ?_
  rintro e w3 ⟨rfl, hb⟩
  have HB3 := Lib.hid (HB2.out.trans (hb.mono HB2.out.size))
  have HS3 := Lib.hid (HS2.out.below hb HS2.out.lt)
  clear hb
  go_wp2_with fail
  go_loopg [9] 3 (fun gg v9 wx => ∃ i, 1 ≤ i ∧ i ≤ 4 ∧ gg = 4 - i ∧ v9 = .int .i64 (i : Nat) ∧ Hid (Below w.heap.size w wx) ∧ Hid (Sits wx gl 5 #[.int .u8 2, .int .u8 3, .int .u8 4, .int .u8 5]))
  case atStart => exact ⟨1, by omega, by omega, rfl, rfl, HB3, HS3⟩
  case round =>
    obtain ⟨i, h1, h2, rfl, rfl, HBi, HSi⟩ := hrel
    have q0 : wr.cell? ⟨gl, 0, none⟩ = some (.int .u8 2) := HSi.out.cell 0
    have q1 : wr.cell? ⟨gl, 1, none⟩ = some (.int .u8 3) := HSi.out.cell 1
    have q2 : wr.cell? ⟨gl, 2, none⟩ = some (.int .u8 4) := HSi.out.cell 2
    have q3 : wr.cell? ⟨gl, 3, none⟩ = some (.int .u8 5) := HSi.out.cell 3
    have lgl := HSi.out.lt
    obtain rfl | rfl | rfl | rfl : i = 1 ∨ i = 2 ∨ i = 3 ∨ i = 4 := by omega
    · go_wp2_with fail
      go_region
      go_wp2_with fail
      go_roundg (2)
      case measure => omega
      case rel => exact ⟨2, by omega, by omega, rfl, by go_num, Lib.hid (by first | exact HBi.out | exact HBi.out.drew | exact drewN_below HBi.out _), Lib.hid (by first | exact HSi.out | exact HSi.out.drew)⟩
    · go_wp2_with fail
      go_region
      go_wp2_with fail
      go_roundg (1)
      case measure => omega
      case rel => exact ⟨3, by omega, by omega, rfl, by go_num, Lib.hid (by first | exact HBi.out | exact HBi.out.drew | exact drewN_below HBi.out _), Lib.hid (by first | exact HSi.out | exact HSi.out.drew)⟩
    · go_wp2_with fail
      go_region
      go_wp2_with fail
      go_roundg (0)
      case measure => omega
      case rel => exact ⟨4, by omega, by omega, rfl, by go_num, Lib.hid (by first | exact HBi.out | exact HBi.out.drew | exact drewN_below HBi.out _), Lib.hid (by first | exact HSi.out | exact HSi.out.drew)⟩
    · go_wp2_with fail
      go_loopg [10, 11] (d % 20) (fun gg v10 v11 wx => ∃ j, j ≤ d % 20 ∧ gg = d % 20 - j ∧ v11 = .int .i64 (j : Nat) ∧ Hid (Stand (here wx) wx (nested j) v10) ∧ Hid (Below w.heap.size w wx))
      case atStart => exact ⟨0, by omega, by omega, rfl, Lib.hid ⟨[], rowAt_none, rfl⟩, HBi⟩
      case round =>
        obtain ⟨j, hj, rfl, rfl, HST, HBj⟩ := hrel
        obtain ⟨p, cap, rfl, _⟩ := HST.out.len
        have dz : ((d % 20 : Nat) : Int) = (d : Int) % 20 := by omega
        by_cases hlt : j < d % 20
        · have jj : (j : Int) < (d : Int) % 20 := by omega
          have HLT := Lib.hid hlt
          clear hlt hj dz
          go_wp2_with fail
          go_roundg (d % 20 - (j + 1))
          case measure => have := HLT.out; omega
          case rel => exact ⟨j + 1, HLT.out, rfl, by go_num, Lib.hid (around_stand HST.out), Lib.hid (HBj.out.trans ((around_low _ _).mono HBj.out.size))⟩
        · obtain rfl : j = d % 20 := by omega
          have jj : ¬ (((d % 20 : Nat) : Int) < (d : Int) % 20) := by omega
          have HWK := Lib.hid (WalkSt_any _ _ (mtick wr.heap.size) (nested (d % 20)) _ 0 _ (by rw [nested_told]; omega) (Sits.new wr 3 #[.int .i64 0]) ((HST.out.below ((Below.refl _ _).alloc (Nat.le_refl _) _)).wider fun x hx => Nat.ne_of_lt hx))
          have HBC := Lib.hid (fun W' (hk : Keeps (fun x => x = wr.heap.size) (wr.alloc (.cells #[.int .i64 0] 3)) W') => (show Below wr.heap.size wr W' from behind ((Below.refl _ _).alloc (Nat.le_refl _) _) hk (by simp) (fun x e => by rw [e]; exact Nat.le_refl _)))
          have HNE := Lib.hid (fun W' (hb : Below wr.heap.size wr W') => (Nest_any (nested (d % 20)) _ W' ((HST.out.below hb).wider fun _ _ => trivial)).mono fun e' w' (hp : Made _ W' e' w') => (show e' = .returned (.int .i64 (min 9 (d % 20 + 1) : Nat)) ∧ Below W'.heap.size W' w' from ⟨by rw [hp.1, nested_deep], hp.2⟩))
          have m1 : min ((d : Int) % 20 + 1) 9 = ((min 9 (d % 20 + 1) : Nat) : Int) := by omega
          have m2 : min ((d : Int) % 20) 8 = ((min (d % 20) 8 : Nat) : Int) := by omega
          clear hlt hj dz
          go_wp2_with fail
          refine HWK.out.mono ?_
          rintro e w4 ⟨rfl, hc, hk⟩
          rw [nested_told] at hc
          have hb := HBC.out w4 hk
          have HB4 := Lib.hid (HBj.out.trans (hb.mono HBj.out.size))
          have HNC := Lib.hid (HNE.out w4 hb)
          have HC4 := Lib.hid hc
          clear hc hk hb HBC HNE
          go_wp2_with fail
          refine HNC.out.mono ?_
          rintro e w5 ⟨rfl, hb⟩
          have HB5 := Lib.hid (HB4.out.trans (hb.mono HB4.out.size))
          have h5 := HC4.out.below hb HC4.out.lt
          have c0 := h5.cell 0
          have l0 := h5.lt
          clear hb h5
          go_wp2_with fail
          refine (HW.out _ HB5.out).mono ?_
          rintro e w6 ⟨rfl, hb⟩
          have HB6 := Lib.hid (HB5.out.trans (hb.mono HB5.out.size))
          clear hb
          go_wp2_with fail
          go_ret
          exact ⟨rfl, HB6.out⟩
set_option maxRecDepth 100000 in
set_option maxHeartbeats 2000000 in
theorem pmodes_5 (m d : Nat) (hm : m < 256) (hd : d < 256) (w : World) (hX : All w) : Calls Tryd.prog 3 #[.int .u8 (m : Nat), .int .u8 (5 : Nat), .int .u8 (d : Nat)] w fun e w' => Made (.returned (.bool true)) w e w' := by
  have HMO := Lib.hid (fun W => (modes_any 5 (by decide) W).mono fun e' w' (hp : ModesMade 5 W e' w') => (show ∃ g, e' = .returned (.slice (some ⟨g, 0, none⟩) 4 4) ∧ Sits w' g 5 #[.int .u8 2, .int .u8 3, .int .u8 4, .int .u8 5] ∧ Below W.heap.size W w' from by
    obtain ⟨v, he, hs, hb⟩ := hp
    rcases hs with ⟨h0, _⟩ | ⟨g, hv, hs⟩
    · exact absurd h0 (by decide)
    · exact ⟨g, by rw [he, hv]; rfl, hs, hb⟩))
  have HX := Lib.hid hX
  have HA := Lib.hid (fun W (h : Below w.heap.size w W) => mode_any m hm W (hX.below h).2)
  have HB := Lib.hid (fun W => refMode_any m hm W)
  have HW := Lib.hid (fun W (h : Below w.heap.size w W) => woken_any W (hX.below h))
  have HD := Lib.hid hd
  have d1 : (d : Int) < 256 := by omega
  generalize str (modeTxt m) = S at HA HB
  clear hX hm hd
  go_enter Tryd.func3, Tryd.ntmps3
  go_wp2_with fail
  refine (HMO.out _).mono ?_
  rintro e w1 ⟨gl, rfl, hs, hb⟩
  have HB1 := Lib.hid hb
  have HS := Lib.hid hs
  clear hb hs HMO
  go_wp2_with fail
  refine (HA.out _ HB1.out).mono ?_
  rintro e w2 ⟨rfl, hb⟩
  have HB2 := Lib.hid (HB1.out.trans (hb.mono HB1.out.size))
  have HS2 := Lib.hid (HS.out.below hb HS.out.lt)
  clear hb
  go_wp2_with fail
  refine (HB.out _).mono ?_
  rintro e w3 ⟨rfl, hb⟩
  have HB3 := Lib.hid (HB2.out.trans (hb.mono HB2.out.size))
  have HS3 := Lib.hid (HS2.out.below hb HS2.out.lt)
  clear hb
  go_wp2_with fail
  go_loopg [9] 3 (fun gg v9 wx => ∃ i, 1 ≤ i ∧ i ≤ 4 ∧ gg = 4 - i ∧ v9 = .int .i64 (i : Nat) ∧ Hid (Below w.heap.size w wx) ∧ Hid (Sits wx gl 5 #[.int .u8 2, .int .u8 3, .int .u8 4, .int .u8 5]))
  case atStart => exact ⟨1, by omega, by omega, rfl, rfl, HB3, HS3⟩
  case round =>
    obtain ⟨i, h1, h2, rfl, rfl, HBi, HSi⟩ := hrel
    have q0 : wr.cell? ⟨gl, 0, none⟩ = some (.int .u8 2) := HSi.out.cell 0
    have q1 : wr.cell? ⟨gl, 1, none⟩ = some (.int .u8 3) := HSi.out.cell 1
    have q2 : wr.cell? ⟨gl, 2, none⟩ = some (.int .u8 4) := HSi.out.cell 2
    have q3 : wr.cell? ⟨gl, 3, none⟩ = some (.int .u8 5) := HSi.out.cell 3
    have lgl := HSi.out.lt
    obtain rfl | rfl | rfl | rfl : i = 1 ∨ i = 2 ∨ i = 3 ∨ i = 4 := by omega
    · go_wp2_with fail
      go_region
      go_wp2_with fail
      go_roundg (2)
      case measure => omega
      case rel => exact ⟨2, by omega, by omega, rfl, by go_num, Lib.hid (by first | exact HBi.out | exact HBi.out.drew | exact drewN_below HBi.out _), Lib.hid (by first | exact HSi.out | exact HSi.out.drew)⟩
    · go_wp2_with fail
      go_region
      go_wp2_with fail
      go_roundg (1)
      case measure => omega
      case rel => exact ⟨3, by omega, by omega, rfl, by go_num, Lib.hid (by first | exact HBi.out | exact HBi.out.drew | exact drewN_below HBi.out _), Lib.hid (by first | exact HSi.out | exact HSi.out.drew)⟩
    · go_wp2_with fail
      go_region
      go_wp2_with fail
      go_roundg (0)
      case measure => omega
      case rel => exact ⟨4, by omega, by omega, rfl, by go_num, Lib.hid (by first | exact HBi.out | exact HBi.out.drew | exact drewN_below HBi.out _), Lib.hid (by first | exact HSi.out | exact HSi.out.drew)⟩
    · go_wp2_with fail
      go_loopg [10, 11] (d % 20) (fun gg v10 v11 wx => ∃ j, j ≤ d % 20 ∧ gg = d % 20 - j ∧ v11 = .int .i64 (j : Nat) ∧ Hid (Stand (here wx) wx (nested j) v10) ∧ Hid (Below w.heap.size w wx))
      case atStart => exact ⟨0, by omega, by omega, rfl, Lib.hid ⟨[], rowAt_none, rfl⟩, HBi⟩
      case round =>
        obtain ⟨j, hj, rfl, rfl, HST, HBj⟩ := hrel
        obtain ⟨p, cap, rfl, _⟩ := HST.out.len
        have dz : ((d % 20 : Nat) : Int) = (d : Int) % 20 := by omega
        by_cases hlt : j < d % 20
        · have jj : (j : Int) < (d : Int) % 20 := by omega
          have HLT := Lib.hid hlt
          clear hlt hj dz
          go_wp2_with fail
          go_roundg (d % 20 - (j + 1))
          case measure => have := HLT.out; omega
          case rel => exact ⟨j + 1, HLT.out, rfl, by go_num, Lib.hid (around_stand HST.out), Lib.hid (HBj.out.trans ((around_low _ _).mono HBj.out.size))⟩
        · obtain rfl : j = d % 20 := by omega
          have jj : ¬ (((d % 20 : Nat) : Int) < (d : Int) % 20) := by omega
          have HWK := Lib.hid (WalkSt_any _ _ (mtick wr.heap.size) (nested (d % 20)) _ 0 _ (by rw [nested_told]; omega) (Sits.new wr 3 #[.int .i64 0]) ((HST.out.below ((Below.refl _ _).alloc (Nat.le_refl _) _)).wider fun x hx => Nat.ne_of_lt hx))
          have HBC := Lib.hid (fun W' (hk : Keeps (fun x => x = wr.heap.size) (wr.alloc (.cells #[.int .i64 0] 3)) W') => (show Below wr.heap.size wr W' from behind ((Below.refl _ _).alloc (Nat.le_refl _) _) hk (by simp) (fun x e => by rw [e]; exact Nat.le_refl _)))
          have HNE := Lib.hid (fun W' (hb : Below wr.heap.size wr W') => (Nest_any (nested (d % 20)) _ W' ((HST.out.below hb).wider fun _ _ => trivial)).mono fun e' w' (hp : Made _ W' e' w') => (show e' = .returned (.int .i64 (min 9 (d % 20 + 1) : Nat)) ∧ Below W'.heap.size W' w' from ⟨by rw [hp.1, nested_deep], hp.2⟩))
          have m1 : min ((d : Int) % 20 + 1) 9 = ((min 9 (d % 20 + 1) : Nat) : Int) := by omega
          have m2 : min ((d : Int) % 20) 8 = ((min (d % 20) 8 : Nat) : Int) := by omega
          clear hlt hj dz
          go_wp2_with fail
          refine HWK.out.mono ?_
          rintro e w4 ⟨rfl, hc, hk⟩
          rw [nested_told] at hc
          have hb := HBC.out w4 hk
          have HB4 := Lib.hid (HBj.out.trans (hb.mono HBj.out.size))
          have HNC := Lib.hid (HNE.out w4 hb)
          have HC4 := Lib.hid hc
          clear hc hk hb HBC HNE
          go_wp2_with fail
          refine HNC.out.mono ?_
          rintro e w5 ⟨rfl, hb⟩
          have HB5 := Lib.hid (HB4.out.trans (hb.mono HB4.out.size))
          have h5 := HC4.out.below hb HC4.out.lt
          have c0 := h5.cell 0
          have l0 := h5.lt
          clear hb h5
          go_wp2_with fail
          refine (HW.out _ HB5.out).mono ?_
          rintro e w6 ⟨rfl, hb⟩
          have HB6 := Lib.hid (HB5.out.trans (hb.mono HB5.out.size))
          clear hb
          go_wp2_with fail
          go_ret
          exact ⟨rfl, HB6.out⟩
set_option maxRecDepth 100000 in
set_option maxHeartbeats 2000000 in
theorem pmodes_6 (m d : Nat) (hm : m < 256) (hd : d < 256) (w : World) (hX : All w) : Calls Tryd.prog 3 #[.int .u8 (m : Nat), .int .u8 (6 : Nat), .int .u8 (d : Nat)] w fun e w' => Made (.returned (.bool true)) w e w' := by
  have HMO := Lib.hid (fun W => (modes_any 6 (by decide) W).mono fun e' w' (hp : ModesMade 6 W e' w') => (show ∃ g, e' = .returned (.slice (some ⟨g, 0, none⟩) 4 4) ∧ Sits w' g 5 #[.int .u8 2, .int .u8 3, .int .u8 4, .int .u8 5] ∧ Below W.heap.size W w' from by
    obtain ⟨v, he, hs, hb⟩ := hp
    rcases hs with ⟨h0, _⟩ | ⟨g, hv, hs⟩
    · exact absurd h0 (by decide)
    · exact ⟨g, by rw [he, hv]; rfl, hs, hb⟩))
  have HX := Lib.hid hX
  have HA := Lib.hid (fun W (h : Below w.heap.size w W) => mode_any m hm W (hX.below h).2)
  have HB := Lib.hid (fun W => refMode_any m hm W)
  have HW := Lib.hid (fun W (h : Below w.heap.size w W) => woken_any W (hX.below h))
  have HD := Lib.hid hd
  have d1 : (d : Int) < 256 := by omega
  generalize str (modeTxt m) = S at HA HB
  clear hX hm hd
  go_enter Tryd.func3, Tryd.ntmps3
  go_wp2_with fail
  refine (HMO.out _).mono ?_
  rintro e w1 ⟨gl, rfl, hs, hb⟩
  have HB1 := Lib.hid hb
  have HS := Lib.hid hs
  clear hb hs HMO
  go_wp2_with fail
  refine (HA.out _ HB1.out).mono ?_
  rintro e w2 ⟨rfl, hb⟩
  have HB2 := Lib.hid (HB1.out.trans (hb.mono HB1.out.size))
  have HS2 := Lib.hid (HS.out.below hb HS.out.lt)
  clear hb
  go_wp2_with fail
  refine (HB.out _).mono ?_
  rintro e w3 ⟨rfl, hb⟩
  have HB3 := Lib.hid (HB2.out.trans (hb.mono HB2.out.size))
  have HS3 := Lib.hid (HS2.out.below hb HS2.out.lt)
  clear hb
  go_wp2_with fail
  go_loopg [9] 3 (fun gg v9 wx => ∃ i, 1 ≤ i ∧ i ≤ 4 ∧ gg = 4 - i ∧ v9 = .int .i64 (i : Nat) ∧ Hid (Below w.heap.size w wx) ∧ Hid (Sits wx gl 5 #[.int .u8 2, .int .u8 3, .int .u8 4, .int .u8 5]))
  case atStart => exact ⟨1, by omega, by omega, rfl, rfl, HB3, HS3⟩
  case round =>
    obtain ⟨i, h1, h2, rfl, rfl, HBi, HSi⟩ := hrel
    have q0 : wr.cell? ⟨gl, 0, none⟩ = some (.int .u8 2) := HSi.out.cell 0
    have q1 : wr.cell? ⟨gl, 1, none⟩ = some (.int .u8 3) := HSi.out.cell 1
    have q2 : wr.cell? ⟨gl, 2, none⟩ = some (.int .u8 4) := HSi.out.cell 2
    have q3 : wr.cell? ⟨gl, 3, none⟩ = some (.int .u8 5) := HSi.out.cell 3
    have lgl := HSi.out.lt
    obtain rfl | rfl | rfl | rfl : i = 1 ∨ i = 2 ∨ i = 3 ∨ i = 4 := by omega
    · go_wp2_with fail
      go_region
      go_wp2_with fail
      go_roundg (2)
      case measure => omega
      case rel => exact ⟨2, by omega, by omega, rfl, by go_num, Lib.hid (by first | exact HBi.out | exact HBi.out.drew | exact drewN_below HBi.out _), Lib.hid (by first | exact HSi.out | exact HSi.out.drew)⟩
    · go_wp2_with fail
      go_region
      go_wp2_with fail
      go_roundg (1)
      case measure => omega
      case rel => exact ⟨3, by omega, by omega, rfl, by go_num, Lib.hid (by first | exact HBi.out | exact HBi.out.drew | exact drewN_below HBi.out _), Lib.hid (by first | exact HSi.out | exact HSi.out.drew)⟩
    · go_wp2_with fail
      go_region
      go_wp2_with fail
      go_roundg (0)
      case measure => omega
      case rel => exact ⟨4, by omega, by omega, rfl, by go_num, Lib.hid (by first | exact HBi.out | exact HBi.out.drew | exact drewN_below HBi.out _), Lib.hid (by first | exact HSi.out | exact HSi.out.drew)⟩
    · go_wp2_with fail
      go_loopg [10, 11] (d % 20) (fun gg v10 v11 wx => ∃ j, j ≤ d % 20 ∧ gg = d % 20 - j ∧ v11 = .int .i64 (j : Nat) ∧ Hid (Stand (here wx) wx (nested j) v10) ∧ Hid (Below w.heap.size w wx))
      case atStart => exact ⟨0, by omega, by omega, rfl, Lib.hid ⟨[], rowAt_none, rfl⟩, HBi⟩
      case round =>
        obtain ⟨j, hj, rfl, rfl, HST, HBj⟩ := hrel
        obtain ⟨p, cap, rfl, _⟩ := HST.out.len
        have dz : ((d % 20 : Nat) : Int) = (d : Int) % 20 := by omega
        by_cases hlt : j < d % 20
        · have jj : (j : Int) < (d : Int) % 20 := by omega
          have HLT := Lib.hid hlt
          clear hlt hj dz
          go_wp2_with fail
          go_roundg (d % 20 - (j + 1))
          case measure => have := HLT.out; omega
          case rel => exact ⟨j + 1, HLT.out, rfl, by go_num, Lib.hid (around_stand HST.out), Lib.hid (HBj.out.trans ((around_low _ _).mono HBj.out.size))⟩
        · obtain rfl : j = d % 20 := by omega
          have jj : ¬ (((d % 20 : Nat) : Int) < (d : Int) % 20) := by omega
          have HWK := Lib.hid (WalkSt_any _ _ (mtick wr.heap.size) (nested (d % 20)) _ 0 _ (by rw [nested_told]; omega) (Sits.new wr 3 #[.int .i64 0]) ((HST.out.below ((Below.refl _ _).alloc (Nat.le_refl _) _)).wider fun x hx => Nat.ne_of_lt hx))
          have HBC := Lib.hid (fun W' (hk : Keeps (fun x => x = wr.heap.size) (wr.alloc (.cells #[.int .i64 0] 3)) W') => (show Below wr.heap.size wr W' from behind ((Below.refl _ _).alloc (Nat.le_refl _) _) hk (by simp) (fun x e => by rw [e]; exact Nat.le_refl _)))
          have HNE := Lib.hid (fun W' (hb : Below wr.heap.size wr W') => (Nest_any (nested (d % 20)) _ W' ((HST.out.below hb).wider fun _ _ => trivial)).mono fun e' w' (hp : Made _ W' e' w') => (show e' = .returned (.int .i64 (min 9 (d % 20 + 1) : Nat)) ∧ Below W'.heap.size W' w' from ⟨by rw [hp.1, nested_deep], hp.2⟩))
          have m1 : min ((d : Int) % 20 + 1) 9 = ((min 9 (d % 20 + 1) : Nat) : Int) := by omega
          have m2 : min ((d : Int) % 20) 8 = ((min (d % 20) 8 : Nat) : Int) := by omega
          clear hlt hj dz
          go_wp2_with fail
          refine HWK.out.mono ?_
          rintro e w4 ⟨rfl, hc, hk⟩
          rw [nested_told] at hc
          have hb := HBC.out w4 hk
          have HB4 := Lib.hid (HBj.out.trans (hb.mono HBj.out.size))
          have HNC := Lib.hid (HNE.out w4 hb)
          have HC4 := Lib.hid hc
          clear hc hk hb HBC HNE
          go_wp2_with fail
          refine HNC.out.mono ?_
          rintro e w5 ⟨rfl, hb⟩
          have HB5 := Lib.hid (HB4.out.trans (hb.mono HB4.out.size))
          have h5 := HC4.out.below hb HC4.out.lt
          have c0 := h5.cell 0
          have l0 := h5.lt
          clear hb h5
          go_wp2_with fail
          refine (HW.out _ HB5.out).mono ?_
          rintro e w6 ⟨rfl, hb⟩
          have HB6 := Lib.hid (HB5.out.trans (hb.mono HB5.out.size))
          clear hb
          go_wp2_with fail
          go_ret
          exact ⟨rfl, HB6.out⟩
set_option maxRecDepth 100000 in
set_option maxHeartbeats 2000000 in
theorem pmodes_7 (m d : Nat) (hm : m < 256) (hd : d < 256) (w : World) (hX : All w) : Calls Tryd.prog 3 #[.int .u8 (m : Nat), .int .u8 (7 : Nat), .int .u8 (d : Nat)] w fun e w' => Made (.returned (.bool true)) w e w' := by
  have HMO := Lib.hid (fun W => (modes_any 7 (by decide) W).mono fun e' w' (hp : ModesMade 7 W e' w') => (show ∃ g, e' = .returned (.slice (some ⟨g, 0, none⟩) 4 4) ∧ Sits w' g 5 #[.int .u8 3, .int .u8 4, .int .u8 5, .int .u8 6] ∧ Below W.heap.size W w' from by
    obtain ⟨v, he, hs, hb⟩ := hp
    rcases hs with ⟨h0, _⟩ | ⟨g, hv, hs⟩
    · exact absurd h0 (by decide)
    · exact ⟨g, by rw [he, hv]; rfl, hs, hb⟩))
  have HX := Lib.hid hX
  have HA := Lib.hid (fun W (h : Below w.heap.size w W) => mode_any m hm W (hX.below h).2)
  have HB := Lib.hid (fun W => refMode_any m hm W)
  have HW := Lib.hid (fun W (h : Below w.heap.size w W) => woken_any W (hX.below h))
  have HD := Lib.hid hd
  have d1 : (d : Int) < 256 := by omega
  generalize str (modeTxt m) = S at HA HB
  clear hX hm hd
  go_enter Tryd.func3, Tryd.ntmps3
  go_wp2_with fail
  refine (HMO.out _).mono ?_
  rintro e w1 ⟨gl, rfl, hs, hb⟩
  have HB1 := Lib.hid hb
  have HS := Lib.hid hs
  clear hb hs HMO
  go_wp2_with fail
  refine (HA.out _ HB1.out).mono ?_
  rintro e w2 ⟨rfl, hb⟩
  have HB2 := Lib.hid (HB1.out.trans (hb.mono HB1.out.size))
  have HS2 := Lib.hid (HS.out.below hb HS.out.lt)
  clear hb
  go_wp2_with fail
  refine (HB.out _).mono ?_
  rintro e w3 ⟨rfl, hb⟩
  have HB3 := Lib.hid (HB2.out.trans (hb.mono HB2.out.size))
  have HS3 := Lib.hid (HS2.out.below hb HS2.out.lt)
  clear hb
  go_wp2_with fail
  go_loopg [9] 3 (fun gg v9 wx => ∃ i, 1 ≤ i ∧ i ≤ 4 ∧ gg = 4 - i ∧ v9 = .int .i64 (i : Nat) ∧ Hid (Below w.heap.size w wx) ∧ Hid (Sits wx gl 5 #[.int .u8 3, .int .u8 4, .int .u8 5, .int .u8 6]))
  case atStart => exact ⟨1, by omega, by omega, rfl, rfl, HB3, HS3⟩
  case round =>
    obtain ⟨i, h1, h2, rfl, rfl, HBi, HSi⟩ := hrel
    have q0 : wr.cell? ⟨gl, 0, none⟩ = some (.int .u8 3) := HSi.out.cell 0
    have q1 : wr.cell? ⟨gl, 1, none⟩ = some (.int .u8 4) := HSi.out.cell 1
    have q2 : wr.cell? ⟨gl, 2, none⟩ = some (.int .u8 5) := HSi.out.cell 2
    have q3 : wr.cell? ⟨gl, 3, none⟩ = some (.int .u8 6) := HSi.out.cell 3
    have lgl := HSi.out.lt
    obtain rfl | rfl | rfl | rfl : i = 1 ∨ i = 2 ∨ i = 3 ∨ i = 4 := by omega
    · go_wp2_with fail
      go_region
      go_wp2_with fail
      go_roundg (2)
      case measure => omega
      case rel => exact ⟨2, by omega, by omega, rfl, by go_num, Lib.hid (by first | exact HBi.out | exact HBi.out.drew | exact drewN_below HBi.out _), Lib.hid (by first | exact HSi.out | exact HSi.out.drew)⟩
    · go_wp2_with fail
      go_region
      go_wp2_with fail
      go_roundg (1)
      case measure => omega
      case rel => exact ⟨3, by omega, by omega, rfl, by go_num, Lib.hid (by first | exact HBi.out | exact HBi.out.drew | exact drewN_below HBi.out _), Lib.hid (by first | exact HSi.out | exact HSi.out.drew)⟩
    · go_wp2_with fail
      go_region
      go_wp2_with fail
      go_roundg (0)
      case measure => omega
      case rel => exact ⟨4, by omega, by omega, rfl, by go_num, Lib.hid (by first | exact HBi.out | exact HBi.out.drew | exact drewN_below HBi.out _), Lib.hid (by first | exact HSi.out | exact HSi.out.drew)⟩
    · go_wp2_with fail
      go_loopg [10, 11] (d % 20) (fun gg v10 v11 wx => ∃ j, j ≤ d % 20 ∧ gg = d % 20 - j ∧ v11 = .int .i64 (j : Nat) ∧ Hid (Stand (here wx) wx (nested j) v10) ∧ Hid (Below w.heap.size w wx))
      case atStart => exact ⟨0, by omega, by omega, rfl, Lib.hid ⟨[], rowAt_none, rfl⟩, HBi⟩
      case round =>
        obtain ⟨j, hj, rfl, rfl, HST, HBj⟩ := hrel
        obtain ⟨p, cap, rfl, _⟩ := HST.out.len
        have dz : ((d % 20 : Nat) : Int) = (d : Int) % 20 := by omega
        by_cases hlt : j < d % 20
        · have jj : (j : Int) < (d : Int) % 20 := by omega
          have HLT := Lib.hid hlt
          clear hlt hj dz
          go_wp2_with fail
          go_roundg (d % 20 - (j + 1))
          case measure => have := HLT.out; omega
          case rel => exact ⟨j + 1, HLT.out, rfl, by go_num, Lib.hid (around_stand HST.out), Lib.hid (HBj.out.trans ((around_low _ _).mono HBj.out.size))⟩
        · obtain rfl : j = d % 20 := by omega
          have jj : ¬ (((d % 20 : Nat) : Int) < (d : Int) % 20) := by omega
          have HWK := Lib.hid (WalkSt_any _ _ (mtick wr.heap.size) (nested (d % 20)) _ 0 _ (by rw [nested_told]; omega) (Sits.new wr 3 #[.int .i64 0]) ((HST.out.below ((Below.refl _ _).alloc (Nat.le_refl _) _)).wider fun x hx => Nat.ne_of_lt hx))
          have HBC := Lib.hid (fun W' (hk : Keeps (fun x => x = wr.heap.size) (wr.alloc (.cells #[.int .i64 0] 3)) W') => (show Below wr.heap.size wr W' from behind ((Below.refl _ _).alloc (Nat.le_refl _) _) hk (by simp) (fun x e => by rw [e]; exact Nat.le_refl _)))
          have HNE := Lib.hid (fun W' (hb : Below wr.heap.size wr W') => (Nest_any (nested (d % 20)) _ W' ((HST.out.below hb).wider fun _ _ => trivial)).mono fun e' w' (hp : Made _ W' e' w') => (show e' = .returned (.int .i64 (min 9 (d % 20 + 1) : Nat)) ∧ Below W'.heap.size W' w' from ⟨by rw [hp.1, nested_deep], hp.2⟩))
          have m1 : min ((d : Int) % 20 + 1) 9 = ((min 9 (d % 20 + 1) : Nat) : Int) := by omega
          have m2 : min ((d : Int) % 20) 8 = ((min (d % 20) 8 : Nat) : Int) := by omega
          clear hlt hj dz
          go_wp2_with fail
          refine HWK.out.mono ?_
          rintro e w4 ⟨rfl, hc, hk⟩
          rw [nested_told] at hc
          have hb := HBC.out w4 hk
          have HB4 := Lib.hid (HBj.out.trans (hb.mono HBj.out.size))
          have HNC := Lib.hid (HNE.out w4 hb)
          have HC4 := Lib.hid hc
          clear hc hk hb HBC HNE
          go_wp2_with fail
          refine HNC.out.mono ?_
          rintro e w5 ⟨rfl, hb⟩
          have HB5 := Lib.hid (HB4.out.trans (hb.mono HB4.out.size))
          have h5 := HC4.out.below hb HC4.out.lt
          have c0 := h5.cell 0
          have l0 := h5.lt
          clear hb h5
          go_wp2_with fail
          refine (HW.out _ HB5.out).mono ?_
          rintro e w6 ⟨rfl, hb⟩
          have HB6 := Lib.hid (HB5.out.trans (hb.mono HB5.out.size))
          clear hb
          go_wp2_with fail
          go_ret
          exact ⟨rfl, HB6.out⟩
set_option maxRecDepth 100000 in
set_option maxHeartbeats 2000000 in
theorem pmodes_x (m d : Nat) (k : Nat) (hk : k < 256) (hx : ¬ (k = 2 ∨ k = 3 ∨ k = 4 ∨ k = 5 ∨ k = 6 ∨ k = 7)) (hm : m < 256) (hd : d < 256) (w : World) (hX : All w) : Calls Tryd.prog 3 #[.int .u8 (m : Nat), .int .u8 (k : Nat), .int .u8 (d : Nat)] w fun e w' => Made (.returned (.bool true)) w e w' := by
  have i2 : ((k : Int) == 2) = false := beq_eq_false_iff_ne.2 (by omega)
  have i3 : ((k : Int) == 3) = false := beq_eq_false_iff_ne.2 (by omega)
  have i4 : ((k : Int) == 4) = false := beq_eq_false_iff_ne.2 (by omega)
  have i5 : ((k : Int) == 5) = false := beq_eq_false_iff_ne.2 (by omega)
  have i6 : ((k : Int) == 6) = false := beq_eq_false_iff_ne.2 (by omega)
  have i7 : ((k : Int) == 7) = false := beq_eq_false_iff_ne.2 (by omega)
  have HMO := Lib.hid (fun W => (modes_any k hk W).mono fun e' w' (hp : ModesMade k W e' w') => (show ∃ p, e' = .returned (.slice p 0 0) ∧ Below W.heap.size W w' from by
    obtain ⟨v, he, hs, hb⟩ := hp
    have hl : modesOf k = [] := by unfold modesOf; rw [if_neg (by omega), if_neg (by omega), if_neg (by omega), if_neg (by omega)]
    rcases hs with ⟨_, hv⟩ | ⟨g, hv, hs⟩
    · exact ⟨none, by rw [he, hv], hb⟩
    · exact ⟨some ⟨g, 0, none⟩, by rw [he, hv, hl]; rfl, hb⟩))
  have HX := Lib.hid hX
  have HA := Lib.hid (fun W (h : Below w.heap.size w W) => mode_any m hm W (hX.below h).2)
  have HB := Lib.hid (fun W => refMode_any m hm W)
  have HW := Lib.hid (fun W (h : Below w.heap.size w W) => woken_any W (hX.below h))
  have HD := Lib.hid hd
  have d1 : (d : Int) < 256 := by omega
  generalize str (modeTxt m) = S at HA HB
  clear hX hm hd hx hk
  go_enter Tryd.func3, Tryd.ntmps3
  go_wp2_with fail
  refine (HMO.out _).mono ?_
  rintro e w1 ⟨pl, rfl, hb⟩
  have HB1 := Lib.hid hb
  clear hb HMO
  go_wp2_with fail
  refine (HA.out _ HB1.out).mono ?_
  rintro e w2 ⟨rfl, hb⟩
  have HB2 := Lib.hid (HB1.out.trans (hb.mono HB1.out.size))
  clear hb
  go_wp2_with fail
  refine (HB.out _).mono ?_
  rintro e w3 ⟨rfl, hb⟩
  have HB3 := Lib.hid (HB2.out.trans (hb.mono HB2.out.size))
  clear hb
  go_wp2_with fail
  go_loopg [9] 0 (fun gg v9 wx => ∃ i, 1 ≤ i ∧ i ≤ 1 ∧ gg = 1 - i ∧ v9 = .int .i64 (i : Nat) ∧ Hid (Below w.heap.size w wx))
  case atStart => exact ⟨1, by omega, by omega, rfl, rfl, HB3⟩
  case round =>
    obtain ⟨i, h1, h2, rfl, rfl, HBi⟩ := hrel
    obtain rfl : i = 1 := by omega
    go_wp2_with fail
    go_loopg [10, 11] (d % 20) (fun gg v10 v11 wx => ∃ j, j ≤ d % 20 ∧ gg = d % 20 - j ∧ v11 = .int .i64 (j : Nat) ∧ Hid (Stand (here wx) wx (nested j) v10) ∧ Hid (Below w.heap.size w wx))
    case atStart => exact ⟨0, by omega, by omega, rfl, Lib.hid ⟨[], rowAt_none, rfl⟩, HBi⟩
    case round =>
      obtain ⟨j, hj, rfl, rfl, HST, HBj⟩ := hrel
      obtain ⟨p, cap, rfl, _⟩ := HST.out.len
      have dz : ((d % 20 : Nat) : Int) = (d : Int) % 20 := by omega
      by_cases hlt : j < d % 20
      · have jj : (j : Int) < (d : Int) % 20 := by omega
        have HLT := Lib.hid hlt
        clear hlt hj dz
        go_wp2_with fail
        go_roundg (d % 20 - (j + 1))
        case measure => have := HLT.out; omega
        case rel => exact ⟨j + 1, HLT.out, rfl, by go_num, Lib.hid (around_stand HST.out), Lib.hid (HBj.out.trans ((around_low _ _).mono HBj.out.size))⟩
      · obtain rfl : j = d % 20 := by omega
        have jj : ¬ (((d % 20 : Nat) : Int) < (d : Int) % 20) := by omega
        have HWK := Lib.hid (WalkSt_any _ _ (mtick wr.heap.size) (nested (d % 20)) _ 0 _ (by rw [nested_told]; omega) (Sits.new wr 3 #[.int .i64 0]) ((HST.out.below ((Below.refl _ _).alloc (Nat.le_refl _) _)).wider fun x hx => Nat.ne_of_lt hx))
        have HBC := Lib.hid (fun W' (hk : Keeps (fun x => x = wr.heap.size) (wr.alloc (.cells #[.int .i64 0] 3)) W') => (show Below wr.heap.size wr W' from behind ((Below.refl _ _).alloc (Nat.le_refl _) _) hk (by simp) (fun x e => by rw [e]; exact Nat.le_refl _)))
        have HNE := Lib.hid (fun W' (hb : Below wr.heap.size wr W') => (Nest_any (nested (d % 20)) _ W' ((HST.out.below hb).wider fun _ _ => trivial)).mono fun e' w' (hp : Made _ W' e' w') => (show e' = .returned (.int .i64 (min 9 (d % 20 + 1) : Nat)) ∧ Below W'.heap.size W' w' from ⟨by rw [hp.1, nested_deep], hp.2⟩))
        have m1 : min ((d : Int) % 20 + 1) 9 = ((min 9 (d % 20 + 1) : Nat) : Int) := by omega
        have m2 : min ((d : Int) % 20) 8 = ((min (d % 20) 8 : Nat) : Int) := by omega
        clear hlt hj dz
        go_wp2_with fail
        refine HWK.out.mono ?_
        rintro e w4 ⟨rfl, hc, hk⟩
        rw [nested_told] at hc
        have hb := HBC.out w4 hk
        have HB4 := Lib.hid (HBj.out.trans (hb.mono HBj.out.size))
        have HNC := Lib.hid (HNE.out w4 hb)
        have HC4 := Lib.hid hc
        clear hc hk hb HBC HNE
        go_wp2_with fail
        refine HNC.out.mono ?_
        rintro e w5 ⟨rfl, hb⟩
        have HB5 := Lib.hid (HB4.out.trans (hb.mono HB4.out.size))
        have h5 := HC4.out.below hb HC4.out.lt
        have c0 := h5.cell 0
        have l0 := h5.lt
        clear hb h5
        go_wp2_with fail
        refine (HW.out _ HB5.out).mono ?_
        rintro e w6 ⟨rfl, hb⟩
        have HB6 := Lib.hid (HB5.out.trans (hb.mono HB5.out.size))
        clear hb
        go_wp2_with fail
        go_ret
        exact ⟨rfl, HB6.out⟩
theorem pmodes_any (m k d : Nat) (hm : m < 256) (hk : k < 256) (hd : d < 256) (w : World) (hX : All w) : Calls Tryd.prog 3 #[.int .u8 (m : Nat), .int .u8 (k : Nat), .int .u8 (d : Nat)] w fun e w' => Made (.returned (.bool true)) w e w' := by
  by_cases hx : k = 2 ∨ k = 3 ∨ k = 4 ∨ k = 5 ∨ k = 6 ∨ k = 7
  · obtain rfl | rfl | rfl | rfl | rfl | rfl := hx
    · exact pmodes_2 m d hm hd w hX
    · exact pmodes_3 m d hm hd w hX
    · exact pmodes_4 m d hm hd w hX
    · exact pmodes_5 m d hm hd w hX
    · exact pmodes_6 m d hm hd w hX
    · exact pmodes_7 m d hm hd w hX
  · exact pmodes_x m d k hk hx hm hd w hX
end Go.Proofs.YtagpkhdogkjopaaDoor.Prog
