/- Layer 3 (expr): an argument that is a row of numbers, opened. -/
import Derived.Test.YtlfdjlpkopmhhaaDoorExprV
import Derived.Test.YtlfdjlpkopmhhaaDoorExprG
namespace Go.Proofs.YtlfdjlpkopmhhaaDoor.Expr
open Go.RowKit Go.ChangeShapes Go.WideShapes Go.ChangeAt Go.Proofs.YtlfdjlpkopmhhaaDoor.Card Go.Proofs.YtlfdjlpkopmhhaaDoor.Mem Go.Deep

section
variable {H : Type} {enc : TypeId × Value → H} {w : World} {base : Nat} {sp : Nat → Bool} {held : Bool}
set_option maxRecDepth 100000 in
theorem urow_open {v : Value} {d : DataW H} {p : List MemPlace} (hv : Value.okWide Tryd.prog w .any base 31 v) (h : DataW.Trod enc Tryd.prog w 0 sp held 31 v d p) :
    ∃ q len cap, v = .slice q len cap ∧ (len ≤ 1000000 → ∃ u : List Nat, u.length = len ∧ (∀ a ∈ u, a < 18446744073709551616) ∧ URow w v u) := by
  obtain ⟨q, len, cap, rfl⟩ := okWide_slice Tryd.underlying31 hv
  refine ⟨q, len, cap, rfl, fun hlen => ?_⟩
  obtain ⟨n, hn⟩ := h
  rcases open_ints Tryd.underlying31 Tryd.underlying22 (by kernel_rfl) hn with ⟨hcs, _⟩ | ⟨a, len', cap', zs, hcs, _, hl, hm, hz, _, hi, hw⟩
  · simp [Value.cells] at hcs
    obtain ⟨rfl, rfl, rfl⟩ := hcs
    exact ⟨[], rfl, (fun a ha => by cases ha), .inl ⟨rfl, _, _, rfl⟩⟩
  · simp [Value.cells] at hcs
    obtain ⟨rfl, rfl, rfl⟩ := hcs
    have hml : len ≤ zs.length := by rw [hz]; split <;> omega
    cases len with
    | zero => exact ⟨[], rfl, (fun a ha => by cases ha), .inl ⟨rfl, _, _, rfl⟩⟩
    | succ k =>
      obtain ⟨b, off, spot⟩ := a
      have hspot : spot = none := by
        have := World.cell?_spot (hi 0 (by omega))
        simpa [Addr.add] using this
      subst hspot
      have hget : ∀ i, i < zs.length → zs.getD i 0 ∈ zs := fun i h => by
        rw [List.getD_eq_getElem?_getD, List.getElem?_eq_getElem h]; exact List.getElem_mem h
      have each : ∀ i, i < k + 1 → ∃ a : Nat, a < 18446744073709551616 ∧ w.cell? ⟨b, off + i, none⟩ = some (.int .u64 (a : Nat)) := fun i hik => by
        obtain ⟨a, ha, hlt⟩ := nat_of_u64 (hw _ (hget i (by omega)))
        have := hi i (by omega)
        rw [ha, add_plain] at this
        exact ⟨a, hlt, this⟩
      obtain ⟨u, hul, hq⟩ := list_of each
      refine ⟨u, hul, fun a ha => ?_, .inr ⟨b, off, cap, by rw [hul], by rw [hul]; exact hlen, fun i a ha => (hq i a ha).2⟩⟩
      obtain ⟨i, hi'⟩ := List.getElem?_of_mem ha
      exact (hq i a hi').1
end
end Go.Proofs.YtlfdjlpkopmhhaaDoor.Expr
