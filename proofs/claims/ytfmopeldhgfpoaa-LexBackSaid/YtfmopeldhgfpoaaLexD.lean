/- Layer 2 (lex): pieces that are known (wakes). -/
import Derived.Test.YtfmopeldhgfpoaaLexC
namespace Go.Proofs.Ytfmopeldhgfpoaa.Lex
open Go.RowKit

theorem known1 : lexAll [114, 48, 10, 60, 61, 61, 32, 55, 32, 35, 32, 110, 111] =
    .ok [⟨2, [114, 48], 0, 1, 1⟩, ⟨3, [60, 61], 0, 2, 1⟩, ⟨3, [61], 0, 2, 3⟩, ⟨1, [55], 7, 2, 5⟩, ⟨0, [], 0, 2, 11⟩] := by kernel_rfl
theorem known2 : lexAll [97, 10, 32, 63] = .err 3 2 2 := by kernel_rfl

/-- The cells of a slice that the call owns. -/
theorem own_form {w : World} {base : Nat} {e : TypeId} {size n : Nat} {v : Value} {xs : List Value} (h : w.ownsRow base e size v (n + 1) xs) :
    ∃ g cap, v = .slice (some ⟨g, 0, none⟩) (n + 1) cap ∧ base ≤ g ∧ g < w.heap.size ∧ n + 1 ≤ cap ∧ cap ≤ maxLen ∧ ∀ j u, xs[j]? = some u → w.cell? ⟨g, j, none⟩ = some u := by
  have h' := h
  rcases h.2 with ⟨_, h0⟩ | ⟨g, cap, cur, rfl, hb, hh, hc, hm, _⟩
  · omega
  · refine ⟨g, cap, rfl, hb, lt_of_block hh, hc, hm, fun j u hu => ?_⟩
    have := h'.cells (g := g) rfl j u hu
    rwa [Addr.add_lit, Nat.zero_add] at this

def Yes (w : World) (e : Ending) (w' : World) : Prop := e = .returned (.bool true) ∧ Below w.heap.size w w'
set_option maxHeartbeats 2000000 in
set_option maxRecDepth 100000 in
theorem wakes_any (w : World) : Calls Try.prog 6 #[] w fun e w' => Yes w e w' := by
  go_enter Try.func6, Try.ntmps6
  go_wp2_with fail
  refine (lex_all _ _ (by decide)).mono ?_
  rintro e w1 ⟨hb1, hr⟩
  rw [show lexAll (ByteArray.mk #[114, 48, 10, 60, 61, 61, 32, 55, 32, 35, 32, 110, 111]).data.toList = _ from known1] at hr
  obtain ⟨v1, rfl, own1⟩ := hr
  obtain ⟨g, cap, rfl, hg1, hg2, hcap, hcm, hcell⟩ := own_form own1
  clear own1
  have HC := Lib.hid hcell
  clear hcell
  go_wp2_with fail
  refine (lex_all _ _ (by decide)).mono ?_
  rintro e w2 ⟨hb2, hr⟩
  rw [show lexAll (ByteArray.mk #[97, 10, 32, 63]).data.toList = _ from known2] at hr
  obtain rfl := hr
  have low : ∀ i, w2.cell? ⟨g, i, none⟩ = w1.cell? ⟨g, i, none⟩ := fun i => (hb2.cell (by simp; omega)).trans (World.cell?_alloc_lt _ _ _ hg2)
  have c0 : w2.cell? ⟨g, 0, none⟩ = some (.int .u8 2) := (low 0).trans (HC.out 0 _ rfl)
  have c1 : w2.cell? ⟨g, 1, none⟩ = some (.string ⟨#[114, 48]⟩) := (low 1).trans (HC.out 1 _ rfl)
  have c2 : w2.cell? ⟨g, 2, none⟩ = some (.int .u64 0) := (low 2).trans (HC.out 2 _ rfl)
  have c3 : w2.cell? ⟨g, 3, none⟩ = some (.int .i64 1) := (low 3).trans (HC.out 3 _ rfl)
  have c4 : w2.cell? ⟨g, 4, none⟩ = some (.int .i64 1) := (low 4).trans (HC.out 4 _ rfl)
  have c6 : w2.cell? ⟨g, 6, none⟩ = some (.string ⟨#[60, 61]⟩) := (low 6).trans (HC.out 6 _ rfl)
  have c11 : w2.cell? ⟨g, 11, none⟩ = some (.string ⟨#[61]⟩) := (low 11).trans (HC.out 11 _ rfl)
  have c15 : w2.cell? ⟨g, 15, none⟩ = some (.int .u8 1) := (low 15).trans (HC.out 15 _ rfl)
  have c16 : w2.cell? ⟨g, 16, none⟩ = some (.string ⟨#[55]⟩) := (low 16).trans (HC.out 16 _ rfl)
  have c17 : w2.cell? ⟨g, 17, none⟩ = some (.int .u64 7) := (low 17).trans (HC.out 17 _ rfl)
  have c18 : w2.cell? ⟨g, 18, none⟩ = some (.int .i64 2) := (low 18).trans (HC.out 18 _ rfl)
  have c19 : w2.cell? ⟨g, 19, none⟩ = some (.int .i64 5) := (low 19).trans (HC.out 19 _ rfl)
  have c20 : w2.cell? ⟨g, 20, none⟩ = some (.int .u8 0) := (low 20).trans (HC.out 20 _ rfl)
  have c23 : w2.cell? ⟨g, 23, none⟩ = some (.int .i64 2) := (low 23).trans (HC.out 23 _ rfl)
  have c24 : w2.cell? ⟨g, 24, none⟩ = some (.int .i64 11) := (low 24).trans (HC.out 24 _ rfl)
  clear low
  have hg3 : g < w2.heap.size := by have := hb2.size; simp at this; omega
  have hb := (hb1.alloc hb1.size (.cells #[.int .i64 0, .int .i64 0] 25)).trans (hb2.mono (by have := hb1.size; simp; omega))
  unfold maxLen at hcm
  clear hcap
  go_wp2_with fail
  go_ret
  exact ⟨rfl, hb.alloc hb.size _⟩
end Go.Proofs.Ytfmopeldhgfpoaa.Lex
