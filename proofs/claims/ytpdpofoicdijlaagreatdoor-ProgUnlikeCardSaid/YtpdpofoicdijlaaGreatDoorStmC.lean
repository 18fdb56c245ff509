/- Layer 4 (prog): blocks in memory. -/
import Derived.Test.YtpdpofoicdijlaaGreatDoorStmB
namespace Go.Proofs.YtpdpofoicdijlaaGreatDoor.Prog
open Go.RowKit Go.Proofs.YtpdpofoicdijlaaGreatDoor.Mem Go.Proofs.YtpdpofoicdijlaaGreatDoor.Expr Go.Lib

/-- A row of n elements whose cells are these, in a block of U. -/
def RowAt (U : Nat → Prop) (w : World) (v : Value) (n : Nat) (cs : List Value) : Prop :=
  (n = 0 ∧ ∃ p cap, v = .slice p 0 cap) ∨ ∃ g o cap, v = .slice (some ⟨g, o, none⟩) n cap ∧ U g ∧ n ≤ 1000000 ∧ ∀ j u, cs[j]? = some u → w.cell? ⟨g, o + j, none⟩ = some u
/-- The cells of a block's statements. -/
def Holds (U : Nat → Prop) (w : World) : Blk → List Value → Prop
  | .nil, cs => cs = []
  | .cons m t e r, cs => ∃ av bv tv ev ct ce cr, cs = stCells m av bv tv ev ++ cr ∧ Tree w (trO m.a) av ∧ Tree w (trO m.b) bv ∧ RowAt U w tv t.len ct ∧ Holds U w t ct ∧ RowAt U w ev e.len ce ∧ Holds U w e ce ∧ Holds U w r cr
/-- A block as a value. -/
def Stand (U : Nat → Prop) (w : World) (b : Blk) (v : Value) : Prop := ∃ cs, RowAt U w v b.len cs ∧ Holds U w b cs
abbrev any_ : Nat → Prop := fun _ => True

section
variable {U X : Nat → Prop} {w w' : World} {v : Value} {n : Nat} {cs : List Value} {b : Blk}
theorem RowAt.len (h : RowAt U w v n cs) : ∃ p cap, v = .slice p n cap ∧ n ≤ 1000000 := by
  rcases h with ⟨rfl, p, cap, hv⟩ | ⟨g, o, cap, hv, _, hn, _⟩
  · exact ⟨p, cap, hv, by omega⟩
  · exact ⟨_, cap, hv, hn⟩
theorem RowAt.wider (h : RowAt U w v n cs) (hx : ∀ g, U g → X g) : RowAt X w v n cs := by
  rcases h with h | ⟨g, o, cap, hv, hg, h⟩
  · exact .inl h
  · exact .inr ⟨g, o, cap, hv, hx g hg, h⟩
theorem RowAt.keep (h : RowAt U w v n cs) (hk : ∀ g, U g → ∀ j u, w.cell? ⟨g, j, none⟩ = some u → w'.cell? ⟨g, j, none⟩ = some u) : RowAt U w' v n cs := by
  rcases h with h | ⟨g, o, cap, hv, hg, hn, h⟩
  · exact .inl h
  · exact .inr ⟨g, o, cap, hv, hg, hn, fun j u hu => hk g hg _ _ (h j u hu)⟩
theorem Holds.wider (hx : ∀ g, U g → X g) : ∀ {b : Blk} {cs : List Value}, Holds U w b cs → Holds X w b cs := by
  intro b
  induction b with
  | nil => intro cs h; exact h
  | cons m t e r iht ihe ihr =>
    intro cs h
    obtain ⟨av, bv, tv, ev, ct, ce, cr, h1, h2, h3, h4, h5, h6, h7, h8⟩ := h
    exact ⟨av, bv, tv, ev, ct, ce, cr, h1, h2, h3, h4.wider hx, iht h5, h6.wider hx, ihe h7, ihr h8⟩
theorem Holds.keep (hs : Stable 58 w w') (hk : ∀ g, U g → ∀ j u, w.cell? ⟨g, j, none⟩ = some u → w'.cell? ⟨g, j, none⟩ = some u) : ∀ {b : Blk} {cs : List Value}, Holds U w b cs → Holds U w' b cs := by
  intro b
  induction b with
  | nil => intro cs h; exact h
  | cons m t e r iht ihe ihr =>
    intro cs h
    obtain ⟨av, bv, tv, ev, ct, ce, cr, h1, h2, h3, h4, h5, h6, h7, h8⟩ := h
    exact ⟨av, bv, tv, ev, ct, ce, cr, h1, h2.stable hs, h3.stable hs, h4.keep hk, iht h5, h6.keep hk, ihe h7, ihr h8⟩
theorem cell_below (hb : Below w.heap.size w w') : ∀ g, U g → ∀ j u, w.cell? ⟨g, j, none⟩ = some u → w'.cell? ⟨g, j, none⟩ = some u :=
  fun g _ j _ h => (hb.cell (p := ⟨g, j, none⟩) (World.block_lt_of_cell? _ _ h)).trans h
theorem Holds.below (h : Holds U w b cs) (hb : Below w.heap.size w w') : Holds U w' b cs := h.keep (Stable.below hb) (cell_below hb)
theorem RowAt.below (h : RowAt U w v n cs) (hb : Below w.heap.size w w') : RowAt U w' v n cs := h.keep (cell_below hb)
theorem Stand.below (h : Stand U w b v) (hb : Below w.heap.size w w') : Stand U w' b v := by
  obtain ⟨cs, h1, h2⟩ := h
  exact ⟨cs, h1.below hb, h2.below hb⟩
theorem Stand.wider (h : Stand U w b v) (hx : ∀ g, U g → X g) : Stand X w b v := by
  obtain ⟨cs, h1, h2⟩ := h
  exact ⟨cs, h1.wider hx, h2.wider hx⟩
theorem Stand.keep (h : Stand U w b v) (hs : Stable 58 w w') (hk : ∀ g, U g → ∀ j u, w.cell? ⟨g, j, none⟩ = some u → w'.cell? ⟨g, j, none⟩ = some u) : Stand U w' b v := by
  obtain ⟨cs, h1, h2⟩ := h
  exact ⟨cs, h1.keep hk, h2.keep hs hk⟩
end

/-- The eight cells of a statement at place o of block g. -/
def StAt (w : World) (g o : Nat) (m : Mk) (av bv tv ev : Value) : Prop :=
  w.cell? ⟨g, o, none⟩ = some (.int .u8 m.kind) ∧ w.cell? ⟨g, o + 1, none⟩ = some (.int .u8 m.reg) ∧ w.cell? ⟨g, o + 2, none⟩ = some (.int .u8 m.mode) ∧ w.cell? ⟨g, o + 3, none⟩ = some (.int .u8 m.loc) ∧
    w.cell? ⟨g, o + 4, none⟩ = some av ∧ w.cell? ⟨g, o + 5, none⟩ = some bv ∧ w.cell? ⟨g, o + 6, none⟩ = some tv ∧ w.cell? ⟨g, o + 7, none⟩ = some ev
/-- What a loop over a block's statements knows: the rest from place k on. -/
structure Rest (w : World) (g o n : Nat) (r : Blk) (k : Nat) : Prop where
  len : k + r.len = n
  at_ : ∃ cs, Holds any_ w r cs ∧ ∀ j u, cs[j]? = some u → w.cell? ⟨g, o + k * 8 + j, none⟩ = some u
theorem Stand.rest {w : World} {b : Blk} {v : Value} {U : Nat → Prop} (h : Stand U w b v) (hn : b.len ≠ 0) : ∃ g o cap, v = .slice (some ⟨g, o, none⟩) b.len cap ∧ b.len ≤ 1000000 ∧ Rest w g o b.len b 0 := by
  obtain ⟨cs, h1, h2⟩ := h
  rcases h1 with ⟨h0, _⟩ | ⟨g, o, cap, hv, _, hl, hc⟩
  · exact absurd h0 hn
  · exact ⟨g, o, cap, hv, hl, by omega, cs, h2.wider (fun _ _ => trivial), fun j u hu => by simpa using hc j u hu⟩
theorem Rest.below {w w' : World} {g o n k : Nat} {r : Blk} (h : Rest w g o n r k) (hb : Below w.heap.size w w') : Rest w' g o n r k := by
  obtain ⟨h1, cs, h2, h3⟩ := h
  exact ⟨h1, cs, h2.below hb, fun j u hu => cell_below (U := any_) hb g trivial _ _ (h3 j u hu)⟩
theorem Rest.next {w : World} {g o n k : Nat} {m : Mk} {t e r : Blk} (h : Rest w g o n (.cons m t e r) k) : k < n ∧ Rest w g o n r (k + 1) ∧ ∃ av bv tv ev, StAt w g (o + k * 8) m av bv tv ev ∧ Tree w (trO m.a) av ∧ Tree w (trO m.b) bv ∧ Stand any_ w t tv ∧ Stand any_ w e ev := by
  obtain ⟨h1, cs, h2, h3⟩ := h
  obtain ⟨av, bv, tv, ev, ct, ce, cr, rfl, ha, hb, hct, ht, hce, he, hr⟩ := h2
  simp only [Blk.len] at h1
  have at_ : ∀ j u, j < 8 → (stCells m av bv tv ev)[j]? = some u → w.cell? ⟨g, o + k * 8 + j, none⟩ = some u := fun j u hj hu =>
    h3 j u (by rw [List.getElem?_append_left (by simp [stCells]; omega)]; exact hu)
  refine ⟨by omega, ⟨by omega, cr, hr, fun j u hu => ?_⟩, av, bv, tv, ev, ⟨at_ 0 _ (by omega) rfl, at_ 1 _ (by omega) rfl, at_ 2 _ (by omega) rfl, at_ 3 _ (by omega) rfl, at_ 4 _ (by omega) rfl, at_ 5 _ (by omega) rfl, at_ 6 _ (by omega) rfl, at_ 7 _ (by omega) rfl⟩, ha, hb, ⟨ct, hct, ht⟩, ⟨ce, hce, he⟩⟩
  have := h3 (8 + j) u (by rw [List.getElem?_append_right (by simp [stCells])]; simpa [stCells] using hu)
  rw [show o + (k + 1) * 8 + j = o + k * 8 + (8 + j) by omega]
  exact this
theorem Stand.len {U : Nat → Prop} {w : World} {b : Blk} {v : Value} (h : Stand U w b v) : ∃ p cap, v = .slice p b.len cap ∧ b.len ≤ 1000000 := by
  obtain ⟨cs, h1, _⟩ := h
  exact h1.len
theorem Rest.nil {w : World} {g o n k : Nat} (h : Rest w g o n .nil k) : k = n := by
  have := h.len; simpa [Blk.len] using this
/-- The same of any block, an empty one too. -/
def Rests (w : World) (p : Option Addr) (n : Nat) (r : Blk) (k : Nat) : Prop := k + r.len = n ∧ (r = .nil ∨ ∃ g o, p = some ⟨g, o, none⟩ ∧ Rest w g o n r k)
theorem Stand.rests {w : World} {b : Blk} {v : Value} {U : Nat → Prop} (h : Stand U w b v) : ∃ p cap, v = .slice p b.len cap ∧ b.len ≤ 1000000 ∧ Rests w p b.len b 0 := by
  by_cases hn : b.len = 0
  · obtain ⟨p, cap, hv, hl⟩ := h.len
    exact ⟨p, cap, hv, hl, by omega, .inl (Blk.len_zero hn)⟩
  · obtain ⟨g, o, cap, hv, hl, hr⟩ := h.rest hn
    exact ⟨_, cap, hv, hl, by omega, .inr ⟨g, o, rfl, hr⟩⟩
theorem Rests.below {w w' : World} {p : Option Addr} {n k : Nat} {r : Blk} (h : Rests w p n r k) (hb : Below w.heap.size w w') : Rests w' p n r k := by
  obtain ⟨h1, h2⟩ := h
  refine ⟨h1, h2.imp id ?_⟩
  rintro ⟨g, o, hp, hr⟩
  exact ⟨g, o, hp, hr.below hb⟩
theorem Rests.nil {w : World} {p : Option Addr} {n k : Nat} (h : Rests w p n .nil k) : k = n := by
  have := h.1; simpa [Blk.len] using this
theorem Rests.next {w : World} {p : Option Addr} {n k : Nat} {m : Mk} {t e r : Blk} (h : Rests w p n (.cons m t e r) k) :
    ∃ g o, p = some ⟨g, o, none⟩ ∧ k < n ∧ Rests w p n r (k + 1) ∧ ∃ av bv tv ev, StAt w g (o + k * 8) m av bv tv ev ∧ Tree w (trO m.a) av ∧ Tree w (trO m.b) bv ∧ Stand any_ w t tv ∧ Stand any_ w e ev := by
  obtain ⟨h1, h2⟩ := h
  rcases h2 with h2 | ⟨g, o, hp, hr⟩
  · cases h2
  · obtain ⟨hk, hr', h3⟩ := hr.next
    exact ⟨g, o, hp, hk, ⟨hr'.len, .inr ⟨g, o, hp, hr'⟩⟩, h3⟩

/-! ### What a block's text grows by -/
theorem Blk.text_app (p b : Blk) (d : Nat) (hd : d ≤ 8) : (p.app b).text d = p.text d ++ b.text d := by
  induction p with
  | nil => rfl
  | cons m t e r _ _ ih =>
    have hn : ¬ 8 < d := by omega
    simp only [Blk.app, Blk.text, if_neg hn, ih, List.append_assoc]
theorem Blk.text_deep (b : Blk) {d : Nat} (h : 8 < d) : b.text d = [] := by
  cases b with
  | nil => rfl
  | cons m t e r => simp only [Blk.text]; rw [if_pos h]
theorem Blk.snoc_eq (p : Blk) (m : Mk) (t e : Blk) : p.snoc m t e = p.app (.cons m t e .nil) := by
  have := Blk.snoc_app p m t e .nil
  rwa [Blk.app_nil] at this
/-- What one statement writes. -/
def ownTxt (m : Mk) (t e : Blk) (d : Nat) : List UInt8 := (Blk.cons m t e .nil).text d
theorem Blk.text_snoc (p : Blk) (m : Mk) (t e : Blk) (d : Nat) (hd : d ≤ 8) : (p.snoc m t e).text d = p.text d ++ ownTxt m t e d := by
  rw [Blk.snoc_eq, Blk.text_app _ _ _ hd]; rfl
theorem own_8 {m : Mk} (t e : Blk) {d : Nat} (hd : d ≤ 8) (hk : m.kind = 8) : ownTxt m t e d = line d (headOf m) ++ t.text (d + 1) ++ (if e.len = 0 then [] else line d elseTxt ++ e.text (d + 1)) ++ line d [125] := by
  unfold ownTxt; rw [text_cons t e .nil hd (by omega)]; simp [tailOf, hk, Blk.text]
theorem own_9 {m : Mk} (t e : Blk) {d : Nat} (hd : d ≤ 8) (hk : m.kind = 9) : ownTxt m t e d = line d (headOf m) ++ t.text (d + 1) ++ line d [125] := by
  unfold ownTxt; rw [text_cons t e .nil hd (by omega)]; simp [tailOf, hk, Blk.text]
theorem own_flat {m : Mk} (t e : Blk) {d : Nat} (hd : d ≤ 8) (hk : 1 ≤ m.kind ∧ m.kind ≤ 7) : ownTxt m t e d = line d (headOf m) := by
  unfold ownTxt; rw [text_cons t e .nil hd (by omega)]; simp [tailOf, show m.kind ≠ 8 by omega, show m.kind ≠ 9 by omega, Blk.text]
theorem own_none {m : Mk} (t e : Blk) {d : Nat} (hk : ¬ (1 ≤ m.kind ∧ m.kind ≤ 9)) : ownTxt m t e d = [] := by
  unfold ownTxt
  simp only [Blk.text]
  split
  · rfl
  · rw [if_neg (by omega), if_neg (by omega), if_neg (by omega)]; rfl
theorem Blk.size_app (p b : Blk) : (p.app b).size = p.size + b.size := by
  induction p with
  | nil => simp [Blk.app, Blk.size]
  | cons m t e r _ _ ih => simp only [Blk.app, Blk.size, ih]; omega
theorem Blk.fine_app {p b : Blk} (h : (p.app b).fine) : b.fine := by
  induction p with
  | nil => exact h
  | cons m t e r _ _ ih => exact ih h.2.2.2.2.2.2.2.2
theorem Blk.fine_left {p b : Blk} (h : (p.app b).fine) : p.fine := by
  induction p with
  | nil => trivial
  | cons m t e r _ _ ih =>
    obtain ⟨h1, h2, h3, h4, h5, h6, h7, h8, h9⟩ := h
    exact ⟨h1, h2, h3, h4, h5, h6, h7, h8, ih h9⟩

/-! ### How long a text may be -/
theorem exO_len {a : Option Ex} (h : okO a) : (exO a).length ≤ 114660 := by
  cases a with
  | none => simp [exO]
  | some e => exact text_len12 e h.1 h.2
theorem head_len {m : Mk} (ha : okO m.a) (hb : okO m.b) (hr : m.reg < 256) : (headOf m).length ≤ 230000 := by
  have h1 := exO_len ha
  have h2 := exO_len hb
  have h3 := modeTxt_len m.mode
  have h4 := dec_len m.reg (by omega)
  unfold headOf
  split <;> simp only [List.length_cons, List.length_append, List.length_nil] <;> omega
theorem Blk.text_len {b : Blk} (h : b.fine) : ∀ d, (b.text d).length ≤ 240000 * b.size := by
  induction b with
  | nil => intro d; simp [Blk.text]
  | cons m t e r iht ihe ihr =>
    intro d
    obtain ⟨ha, hb, hr, hmo, hlo, hki, ht, he, hrr⟩ := h
    have h1 := head_len ha hb hr
    have h2 := iht ht (d + 1)
    have h3 := ihe he (d + 1)
    have h4 := ihr hrr d
    by_cases hd : 8 < d
    · simp only [Blk.text]; rw [if_pos hd]; simp
    · have hi : (indent d).length ≤ 16 := by simp [indent]; omega
      simp only [Blk.text, Blk.size]
      rw [if_neg hd]
      have hl : ∀ s, (line d s).length ≤ 17 + s.length := fun s => by simp only [line, List.length_append, List.length_cons, List.length_nil]; omega
      have l1 := hl (headOf m)
      have l2 := hl elseTxt
      have l3 := hl [125]
      have l4 : elseTxt.length = 8 := rfl
      simp only [List.length_cons, List.length_nil] at l3
      rw [List.length_append]
      split
      · simp only [List.length_append]
        split
        · simp only [List.length_nil]; omega
        · simp only [List.length_append]; omega
      · split
        · simp only [List.length_append]; omega
        · split
          · omega
          · simp only [List.length_nil]; omega
end Go.Proofs.YtpdpofoicdijlaaGreatDoor.Prog
