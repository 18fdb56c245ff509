/- Layer 11 (memory): rows of the program's items beside the document's. -/
import Derived.Test.YtokkcbhmmhmfmaaMmrYB
import Derived.BigQuiet
namespace Go.Proofs.Ytokkcbhmmhmfmaa.Mmr
open Go.RowKit Go.Proofs.Ytokkcbhmmhmfmaa.Mem Go.Proofs.Ytokkcbhmmhmfmaa.Flow

theorem law_may {x : It} (h : Spn.mayF x.a x.b = true) : lawI x = x := by unfold lawI; rw [if_pos h]
theorem may_rng {x : It} (h : Spn.mayF x.a x.b = true) : Rng x := by
  have := may_le h
  exact ⟨by omega, by omega⟩
set_option maxRecDepth 100000 in
set_option maxHeartbeats 2000000 in
theorem items_any (l : List It) (hn : l.length ≤ 1000) (hm : ∀ x ∈ l, Spn.mayF x.a x.b = true) (p q : Option Addr) (c d : Nat) (w : World) (hp : Its w p l) (hq : Rts w q l) :
    Calls Try.prog 52 #[.slice p l.length c, .slice q l.length d] w (Made (.returned (.bool true)) w) := by
  have HP := Lib.hid hp
  have HQ := Lib.hid hq
  have HM := Lib.hid hm
  have i1 : (l.length : Int) ≤ 1000 := by omega
  clear hp hq hm hn
  go_enter Try.func52, Try.ntmps52
  go_wp2_with fail
  go_loopg [5] l.length (fun gg v5 wx => ∃ k, k ≤ l.length ∧ gg = l.length - k ∧ v5 = .int .i64 (k : Nat) ∧ Hid (Below w.heap.size w wx))
  case atStart => exact ⟨0, by omega, by omega, rfl, Lib.hid (Below.refl _ _)⟩
  case round =>
    obtain ⟨k, hk, rfl, rfl, HB⟩ := hrel
    by_cases hlt : k < l.length
    · have hx : l[k]? = some l[k] := List.getElem?_eq_getElem hlt
      have HMX := Lib.hid (HM.out _ (List.getElem_mem hlt))
      obtain ⟨g, o, rfl, lg, hc⟩ := (HP.out.below HB.out).there hx
      obtain ⟨g', o', rfl, lg', hd⟩ := (HQ.out.below HB.out).there hx
      generalize l[k] = x at hx hc hd HMX
      obtain ⟨c0, c1, c2, c3, c4, c5, c6, c7, c8, c9, c10, c11, c12⟩ := hc
      obtain ⟨d0, d1, d2, d3, d4, d5, d6, d7, d8, d9, d10, d11, d12, d13⟩ := hd
      have j1 : (k : Int) < (l.length : Int) := by omega
      have j0 : (0 : Int) ≤ (k : Int) := by omega
      have HK := Lib.hid hlt
      have hq : ∀ W, (binOp .neq 57 (itV x) (itV x)).run Try.prog W = .ok (.bool false) W := fun W => by rw [neq_it x x (fit_may HMX.out) (fit_may HMX.out), same_self]; rfl
      have hgd := fun u v W => guard_it .neq u v x x W
      have HC : Hid (∀ W, Calls Try.prog 16 #[rtV x] W (Made (.returned (itV x)) W)) := Lib.hid fun W => by
        have := item_any x (may_rng HMX.out) W
        rwa [law_may HMX.out] at this
      clear hx hlt hk
      go_wp2_with fail
      have X0 : ∀ y : Within (Under wr), y.now.cell? ⟨g, o + k * 13, none⟩ = some (.int .i64 x.loc) := fun y => (Below.cell y.ok (p := ⟨g, o + k * 13, none⟩) lg).trans c0
      have X1 : ∀ y : Within (Under wr), y.now.cell? ⟨g, o + k * 13 + 1, none⟩ = some (.complex .f64 (fw x.a) (fw x.b)) := fun y => (Below.cell y.ok (p := ⟨g, o + k * 13 + 1, none⟩) lg).trans c1
      have X2 : ∀ y : Within (Under wr), y.now.cell? ⟨g, o + k * 13 + 2, none⟩ = some (.int .u64 x.n) := fun y => (Below.cell y.ok (p := ⟨g, o + k * 13 + 2, none⟩) lg).trans c2
      have X3 : ∀ y : Within (Under wr), y.now.cell? ⟨g, o + k * 13 + 3, none⟩ = some (.int .i64 (x.v 0)) := fun y => (Below.cell y.ok (p := ⟨g, o + k * 13 + 3, none⟩) lg).trans c3
      have X4 : ∀ y : Within (Under wr), y.now.cell? ⟨g, o + k * 13 + 4, none⟩ = some (.int .i64 (x.v 1)) := fun y => (Below.cell y.ok (p := ⟨g, o + k * 13 + 4, none⟩) lg).trans c4
      have X5 : ∀ y : Within (Under wr), y.now.cell? ⟨g, o + k * 13 + 5, none⟩ = some (.int .i64 (x.v 2)) := fun y => (Below.cell y.ok (p := ⟨g, o + k * 13 + 5, none⟩) lg).trans c5
      have X6 : ∀ y : Within (Under wr), y.now.cell? ⟨g, o + k * 13 + 6, none⟩ = some (.int .i64 (x.v 3)) := fun y => (Below.cell y.ok (p := ⟨g, o + k * 13 + 6, none⟩) lg).trans c6
      have X7 : ∀ y : Within (Under wr), y.now.cell? ⟨g, o + k * 13 + 7, none⟩ = some (.int .i64 (x.v 4)) := fun y => (Below.cell y.ok (p := ⟨g, o + k * 13 + 7, none⟩) lg).trans c7
      have X8 : ∀ y : Within (Under wr), y.now.cell? ⟨g, o + k * 13 + 8, none⟩ = some (.int .i64 (x.v 5)) := fun y => (Below.cell y.ok (p := ⟨g, o + k * 13 + 8, none⟩) lg).trans c8
      have X9 : ∀ y : Within (Under wr), y.now.cell? ⟨g, o + k * 13 + 9, none⟩ = some (.int .i64 (x.v 6)) := fun y => (Below.cell y.ok (p := ⟨g, o + k * 13 + 9, none⟩) lg).trans c9
      have X10 : ∀ y : Within (Under wr), y.now.cell? ⟨g, o + k * 13 + 10, none⟩ = some (.int .i64 (x.v 7)) := fun y => (Below.cell y.ok (p := ⟨g, o + k * 13 + 10, none⟩) lg).trans c10
      have X11 : ∀ y : Within (Under wr), y.now.cell? ⟨g, o + k * 13 + 11, none⟩ = some (.bool x.res) := fun y => (Below.cell y.ok (p := ⟨g, o + k * 13 + 11, none⟩) lg).trans c11
      have X12 : ∀ y : Within (Under wr), y.now.cell? ⟨g, o + k * 13 + 12, none⟩ = some (.int .i64 x.owner) := fun y => (Below.cell y.ok (p := ⟨g, o + k * 13 + 12, none⟩) lg).trans c12
      have Y0 : ∀ y : Within (Under wr), y.now.cell? ⟨g', o' + k * 14, none⟩ = some (.int .i64 x.loc) := fun y => (Below.cell y.ok (p := ⟨g', o' + k * 14, none⟩) lg').trans d0
      have Y1 : ∀ y : Within (Under wr), y.now.cell? ⟨g', o' + k * 14 + 1, none⟩ = some (.int .i64 x.a) := fun y => (Below.cell y.ok (p := ⟨g', o' + k * 14 + 1, none⟩) lg').trans d1
      have Y2 : ∀ y : Within (Under wr), y.now.cell? ⟨g', o' + k * 14 + 2, none⟩ = some (.int .i64 x.b) := fun y => (Below.cell y.ok (p := ⟨g', o' + k * 14 + 2, none⟩) lg').trans d2
      have Y3 : ∀ y : Within (Under wr), y.now.cell? ⟨g', o' + k * 14 + 3, none⟩ = some (.int .u64 x.n) := fun y => (Below.cell y.ok (p := ⟨g', o' + k * 14 + 3, none⟩) lg').trans d3
      have Y4 : ∀ y : Within (Under wr), y.now.cell? ⟨g', o' + k * 14 + 4, none⟩ = some (.int .i64 (x.v 0)) := fun y => (Below.cell y.ok (p := ⟨g', o' + k * 14 + 4, none⟩) lg').trans d4
      have Y5 : ∀ y : Within (Under wr), y.now.cell? ⟨g', o' + k * 14 + 5, none⟩ = some (.int .i64 (x.v 1)) := fun y => (Below.cell y.ok (p := ⟨g', o' + k * 14 + 5, none⟩) lg').trans d5
      have Y6 : ∀ y : Within (Under wr), y.now.cell? ⟨g', o' + k * 14 + 6, none⟩ = some (.int .i64 (x.v 2)) := fun y => (Below.cell y.ok (p := ⟨g', o' + k * 14 + 6, none⟩) lg').trans d6
      have Y7 : ∀ y : Within (Under wr), y.now.cell? ⟨g', o' + k * 14 + 7, none⟩ = some (.int .i64 (x.v 3)) := fun y => (Below.cell y.ok (p := ⟨g', o' + k * 14 + 7, none⟩) lg').trans d7
      have Y8 : ∀ y : Within (Under wr), y.now.cell? ⟨g', o' + k * 14 + 8, none⟩ = some (.int .i64 (x.v 4)) := fun y => (Below.cell y.ok (p := ⟨g', o' + k * 14 + 8, none⟩) lg').trans d8
      have Y9 : ∀ y : Within (Under wr), y.now.cell? ⟨g', o' + k * 14 + 9, none⟩ = some (.int .i64 (x.v 5)) := fun y => (Below.cell y.ok (p := ⟨g', o' + k * 14 + 9, none⟩) lg').trans d9
      have Y10 : ∀ y : Within (Under wr), y.now.cell? ⟨g', o' + k * 14 + 10, none⟩ = some (.int .i64 (x.v 6)) := fun y => (Below.cell y.ok (p := ⟨g', o' + k * 14 + 10, none⟩) lg').trans d10
      have Y11 : ∀ y : Within (Under wr), y.now.cell? ⟨g', o' + k * 14 + 11, none⟩ = some (.int .i64 (x.v 7)) := fun y => (Below.cell y.ok (p := ⟨g', o' + k * 14 + 11, none⟩) lg').trans d11
      have Y12 : ∀ y : Within (Under wr), y.now.cell? ⟨g', o' + k * 14 + 12, none⟩ = some (.bool x.res) := fun y => (Below.cell y.ok (p := ⟨g', o' + k * 14 + 12, none⟩) lg').trans d12
      have Y13 : ∀ y : Within (Under wr), y.now.cell? ⟨g', o' + k * 14 + 13, none⟩ = some (.int .i64 x.owner) := fun y => (Below.cell y.ok (p := ⟨g', o' + k * 14 + 13, none⟩) lg').trans d13
      have ne : Nonempty (Within (Under wr)) := ⟨⟨_, Under.refl wr⟩⟩
      refine wp_region_within (Under wr) (Under.refl wr) (by kernel_rfl) (by kernel_rfl) ?_
      repeat (go_big_quiet_step (first | (go_at_call 16; exact under_made (HC.out _))))
      refine wpQuiet_nil ?_
      intro w3 hw3
      have hbu : Under wr w3 := by obtain ⟨y, rfl⟩ := hw3; exact y.ok
      have HBD : Hid (Below w.heap.size w w3) := Lib.hid (HB.out.trans (Below.mono hbu HB.out.size))
      clear hbu hw3
      go_wp2_with fail
      go_roundg (l.length - (k + 1))
      case measure => have := HK.out; omega
      case rel => exact ⟨k + 1, by have := HK.out; omega, rfl, by go_num, HBD⟩
    · obtain rfl : k = l.length := by omega
      go_wp2_with fail
      go_ret
      exact ⟨rfl, HB.out⟩
end Go.Proofs.Ytokkcbhmmhmfmaa.Mmr
