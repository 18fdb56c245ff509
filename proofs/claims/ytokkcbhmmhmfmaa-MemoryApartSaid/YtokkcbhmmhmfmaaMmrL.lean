/- Layer 11 (memory): slices.Backward, an iterator that goes through a row from its end. -/
import Derived.RangeFuncNested
import Derived.RangeFuncBound
import Derived.RangeFuncCalls
import Derived.RangeFuncLeaves
import Derived.Shelf.Abstract
import Derived.Shelf.RegionOpen
import Derived.WalkKit
import Derived.OwnWalkIn
import Derived.TacticsInMore
import Derived.LoopNIn
import Derived.LoopIn
import Derived.Test.YtokkcbhmmhmfmaaMmrK
namespace Go.Proofs.Ytokkcbhmmhmfmaa.Mmr
open Go.RowKit Go.Shelf Go.Proofs.Ytokkcbhmmhmfmaa.Mem Go.Proofs.Ytokkcbhmmhmfmaa.Flow
attribute [local go_sem] Oper.semAt_some

/-- What comes in a round: a place, and an item of which L is so. -/
abbrev Round (L : It → Prop) := { q : Int × It // L q.2 }
abbrev encI {L : It → Prop} (x : Round L) : Array Value := #[.int .i64 x.1.1, itV x.1.2]
theorem rev_at {l : List It} {k t : Nat} {x : It} (h : k < l.length) (ht : t = l.length - 1 - k) (hx : l[t]? = some x) : l.reverse.take (k + 1) = l.reverse.take k ++ [x] := by
  rw [List.take_add_one, List.getElem?_reverse h, ← ht, hx]; rfl
set_option maxRecDepth 100000 in
set_option maxHeartbeats 2000000 in
theorem back1_in (F : Fence) (n : Nat) (hf : F.fn 79) (hro : F.round = none) (hn : 1 ≤ n) (l Bs n₀ g o c : Nat) (xs : List It) (hx : xs.length ≤ 1000) (hg : g < n₀) (hBn : Bs < n₀) {L : It → Prop} (hL : ∀ x ∈ xs, L x) (J Jx : List (Round L) → World → Prop)
    (hY : ∀ pre x W, J pre W → pre.length < xs.length → YieldAt F (n - 1) Try.prog l (encI x) W fun e W' =>
      (e = .returned (.bool true) ∧ J (pre ++ [x]) W' ∧ Below n₀ W W') ∨ (e = .returned (.bool false) ∧ Jx (pre ++ [x]) W'))
    (W : World) (hBs : W.cell? ⟨Bs, 0, none⟩ = some (.slice (some ⟨g, o, none⟩) xs.length c)) (hc : ∀ k x, xs[k]? = some x → ItAt W g (o + k * 13) x) (h0 : J [] W) :
    CallsIn F n Try.prog 79 #[.func (.yield l) #[] #[], .pointer (some ⟨Bs, 0, none⟩)] W fun e W' => (∃ v, e = .returned v) ∧
      ((∃ ys : List (Round L), ys.map (·.1.2) = xs.reverse ∧ J ys W') ∨ (∃ pre : List (Round L), (∃ k, k ≤ xs.length ∧ pre.map (·.1.2) = xs.reverse.take k) ∧ Jx pre W')) := by
  have i1 : (xs.length : Int) ≤ 1000 := by omega
  refine callsIn_of_wp Try.func79 rfl hf ?_ hro
  simp only [Try.ntmps79, List.size_toArray, List.length_cons, List.length_nil, Nat.reduceAdd, Nat.reduceSub, Array.replicate_succ, Array.replicate_zero, List.push_toArray, List.append_toArray, List.nil_append, List.cons_append]
  gi_wp2
  gi_loopw [3] (fun i wr => ∃ (k : Nat) (z : Int) (pre : List (Round L)), k ≤ xs.length ∧ z = (xs.length : Int) - 1 - k ∧ i = .int .i64 z ∧ pre.map (·.1.2) = xs.reverse.take k ∧ J pre wr ∧ Below n₀ W wr)
    (fun i _ => (intOf i + 1).toNat)
  case atStart => exact ⟨0, _, [], Nat.zero_le _, by simp, rfl, rfl, h0, Below.refl _ _⟩
  case round =>
    obtain ⟨k, z, pre, hk, hz, rfl, hp, hJs, hnx⟩ := hrel
    by_cases hlt : k < xs.length
    · obtain ⟨t, ht⟩ : ∃ t, t = xs.length - 1 - k := ⟨_, rfl⟩
      obtain rfl : z = (t : Nat) := by omega
      have htl : t < xs.length := by omega
      have hxt : xs[t]? = some xs[t] := List.getElem?_eq_getElem htl
      have hrev := rev_at hlt ht hxt
      have hpl : pre.length < xs.length := by
        have := congrArg List.length hp
        rw [List.length_map, List.length_take, List.length_reverse] at this; omega
      obtain ⟨c0, c1, c2, c3, c4, c5, c6, c7, c8, c9, c10, c11, c12⟩ := hc t _ hxt
      have hLx := hL _ (List.getElem_mem htl)
      generalize xs[t] = x at hLx c0 c1 c2 c3 c4 c5 c6 c7 c8 c9 c10 c11 c12 hrev
      have d : ∀ q, wr.cell? ⟨g, q, none⟩ = W.cell? ⟨g, q, none⟩ := fun q => hnx.cell (p := ⟨g, q, none⟩) hg
      rw [← d] at c0 c1 c2 c3 c4 c5 c6 c7 c8 c9 c10 c11 c12
      have hbs : wr.cell? ⟨Bs, 0, none⟩ = some (.slice (some ⟨g, o, none⟩) xs.length c) := (hnx.cell (p := ⟨Bs, 0, none⟩) hBn).trans hBs
      obtain ⟨fn, tmps, assign, body, hy, hR⟩ := hY pre ⟨((t : Int), x), hLx⟩ wr hJs hpl
      dsimp only [encI] at hy
      have k1 : (t : Int) < (xs.length : Int) := by omega
      have k0 : (0 : Int) ≤ (t : Int) := by omega
      have HT := Lib.hid ht
      have HR := Lib.hid hrev
      have HP := Lib.hid hp
      clear hz ht hrev hp
      gi_wp2
      refine hR.mono ?_
      rintro e W3 (⟨rfl, hJ3, hk3⟩ | ⟨rfl, hJx3⟩)
      · gi_wp2
        go_roundw
        case rel => exact ⟨k + 1, _, pre ++ [⟨((t : Int), x), hLx⟩], by omega, by have := HT.out; omega, rfl, by rw [List.map_append, HP.out, HR.out]; rfl, hJ3, hnx.trans hk3⟩
        case measure => simp [intOf]
      · gi_wp2
        refine bodyPost_ret (results_none rfl _ _ _) rfl ?_
        exact ⟨⟨_, rfl⟩, .inr ⟨_, ⟨k + 1, by omega, by rw [List.map_append, HP.out, HR.out]; rfl⟩, hJx3⟩⟩
    · obtain rfl : k = xs.length := by omega
      obtain rfl : z = -1 := by omega
      clear hz
      gi_wp2
      go_end0
      exact ⟨⟨_, rfl⟩, .inl ⟨_, by rw [hp, List.take_of_length_le (by simp)], hJs⟩⟩
set_option maxRecDepth 100000 in
theorem back_any (p : Option Addr) (n c : Nat) (w : World) :
    Calls Try.prog 72 #[.slice p n c] w fun e w' => e = .returned (.func (.func 79) #[] #[.pointer (some ⟨w.heap.size, 0, none⟩)]) ∧ w' = w.alloc (.cells #[.slice p n c] 28) := by
  go_enter Try.func72, Try.ntmps72
  go_wp2_with fail
  go_ret
  exact ⟨rfl, rfl⟩
theorem back1_enters : EntersI 79 := enters_of Try.func79 (by kernel_rfl) rfl
end Go.Proofs.Ytokkcbhmmhmfmaa.Mmr
