/- Layer 3 (expr): the stack of numbers, and what an expression comes to. -/
import Derived.Test.YtpdpofoicdijlaaGreatDoorExprH
import Derived.Test.YtpdpofoicdijlaaGreatDoorExprG
import Derived.Deep.RegionWith
namespace Go.Proofs.YtpdpofoicdijlaaGreatDoor.Expr
open Go.RowKit Go.Proofs.YtpdpofoicdijlaaGreatDoor.Mem Go.Lib

/-- What was below B is as it was; and so are all blocks but those of some types. -/
structure Fr (B : Nat) (ts : List TypeId) (w w' : World) : Prop where
  low : Below B w w'
  by_ : ∀ t, t ∉ ts → Stable t w w'
section
variable {B : Nat} {ts us : List TypeId} {w w' w'' : World}
theorem Fr.refl (B : Nat) (ts : List TypeId) (w : World) : Fr B ts w w := ⟨Below.refl _ _, fun _ _ => Stable.refl _ _⟩
theorem Fr.trans (h : Fr B ts w w') (k : Fr B ts w' w'') : Fr B ts w w'' := ⟨h.low.trans k.low, fun t ht => (h.by_ t ht).trans (k.by_ t ht)⟩
theorem Fr.wider (h : Fr B ts w w') (hu : ∀ t, t ∈ ts → t ∈ us) : Fr B us w w' := ⟨h.low, fun t ht => h.by_ t (fun h' => ht (hu t h'))⟩
theorem Fr.below (h : Below w.heap.size w w') (hB : B ≤ w.heap.size) : Fr B ts w w' := ⟨h.mono hB, fun _ _ => Stable.below h⟩
theorem Fr.drewn (B : Nat) (ts : List TypeId) (w : World) : Fr B ts w w.drew := ⟨(Below.refl _ _).drew, fun _ _ _ _ hs => hs.drew⟩
theorem Fr.size (h : Fr B ts w w') : w.heap.size ≤ w'.heap.size := h.low.size
end
theorem own_stable {w w' : World} {base : Nat} {e : TypeId} {size n : Nat} {v : Value} {xs : List Value} (h : w.ownsRow base e size v n xs) (hs : Stable e w w') : w'.ownsRow base e size v n xs := by
  refine ⟨h.1, ?_⟩
  rcases h.2 with h2 | ⟨g, cap, cur, rfl, hb, hh, r⟩
  · exact .inl h2
  · exact .inr ⟨g, cap, cur, rfl, hb, hs g cur hh, r⟩
theorem own_far {w : World} {base : Nat} {e t : TypeId} {size n g : Nat} {v : Value} {xs : List Value} {cs : Array Value} (h : w.ownsRow base e size v n xs) (hg : Sits w g t cs) (hne : e ≠ t) : v.ownBlock ≠ some g := by
  rcases h.2 with ⟨rfl, _⟩ | ⟨g', cap, cur, rfl, _, hh, _⟩
  · simp [Value.ownBlock]
  · intro he
    have : g' = g := by simpa [Value.ownBlock] using he
    subst this
    exact Sits.differ (t := e) hh hg hne rfl
theorem own_slice {w : World} {base : Nat} {e : TypeId} {size n : Nat} {v : Value} {xs : List Value} (h : w.ownsRow base e size v n xs) : ∃ p cap, v = .slice p n cap := by
  rcases h.2 with ⟨rfl, rfl⟩ | ⟨g, cap, cur, rfl, _⟩
  · exact ⟨_, _, rfl⟩
  · exact ⟨_, _, rfl⟩
/-- A row whose last element is left off. -/
theorem own_last {w : World} {base : Nat} {e : TypeId} {size n : Nat} {v : Value} {xs ys : List Value} (h : w.ownsRow base e size v (n + 1) (xs ++ ys)) (hx : xs.length = n * size) :
    ∃ g cap, v = .slice (some ⟨g, 0, none⟩) (n + 1) cap ∧ n + 1 ≤ cap ∧ cap ≤ maxLen ∧ g < w.heap.size ∧ (∀ j u, ys[j]? = some u → w.cell? ⟨g, n * size + j, none⟩ = some u) ∧ w.ownsRow base e size (.slice (some ⟨g, 0, none⟩) n cap) n xs := by
  have h' := h
  rcases h.2 with ⟨_, h0⟩ | ⟨g, cap, cur, rfl, hb, hh, hc, hm, hcs, ht⟩
  · omega
  · refine ⟨g, cap, rfl, hc, hm, lt_of_block hh, fun j u hu => ?_, hx, .inr ⟨g, cap, cur, rfl, hb, hh, by omega, hm, hcs, ?_⟩⟩
    · have := h'.cells (g := g) rfl (n * size + j) u (by rw [List.getElem?_append_right (by omega), hx]; rw [Nat.add_sub_cancel_left]; exact hu)
      rwa [Addr.add_lit, Nat.zero_add] at this
    · have e1 : (cur.toList.take ((n + 1) * size)).take (n * size) = cur.toList.take (n * size) := by
        rw [List.take_take, Nat.min_eq_left (Nat.mul_le_mul_right _ (Nat.le_succ n))]
      rw [← e1, ht, ← hx, List.take_left']
      rfl
/-- Growing a row of type e changes no block of another type. -/
theorem grown_stable {w w' : World} {base : Nat} {e t : TypeId} {size n : Nat} {v : Value} {xs : List Value} (h : w.ownsRow base e size v n xs) (hg : w.grownBy w' v.ownBlock) (hne : e ≠ t) : Stable t w w' :=
  fun _ _ hs => hs.grown hg (own_far h hs hne)

theorem u64Info : (Tryz.prog.info? 52).map (fun i => (i.zero, i.size, i.bytes)) = some (some (.int .u64 0), 1, 8) := by kernel_rfl

end Go.Proofs.YtpdpofoicdijlaaGreatDoor.Expr
