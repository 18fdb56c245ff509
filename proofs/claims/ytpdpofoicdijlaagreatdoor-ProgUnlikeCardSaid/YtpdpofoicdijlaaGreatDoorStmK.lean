/- Layer 4 (prog): rows of marks, plain and in memory; an expression of a row. -/
import Derived.Test.YtpdpofoicdijlaaGreatDoorStmF
import Derived.Test.YtpdpofoicdijlaaGreatDoorExprR
namespace Go.Proofs.YtpdpofoicdijlaaGreatDoor.Prog
open Go.RowKit Go.Proofs.YtpdpofoicdijlaaGreatDoor.Mem Go.Proofs.YtpdpofoicdijlaaGreatDoor.Expr Go.Lib

/-- A mark of a row. -/
structure Mark where
  kind : Nat
  reg : Nat
  mode : Nat
  loc : Nat
  a : List It
  b : List It
def Mark.bd (x : Mark) : Prop := x.kind < 256 ∧ x.reg < 256 ∧ x.mode < 256 ∧ x.loc < 256 ∧ (∀ i ∈ x.a, i.bd) ∧ (∀ i ∈ x.b, i.bd)
open Classical in
/-- A row's expression; none, if it may not be. -/
noncomputable def exOf (l : List It) : Option Ex := if h : ∃ e : Ex, (∃ m, Sp l 0 e m) ∧ e.depth ≤ 12 then some h.choose else none
theorem exOf_some {l : List It} {e : Ex} {m : Nat} (hs : Sp l 0 e m) (hd : e.depth ≤ 12) : exOf l = some e := by
  have h : ∃ e : Ex, (∃ m, Sp l 0 e m) ∧ e.depth ≤ 12 := ⟨e, ⟨m, hs⟩, hd⟩
  unfold exOf
  rw [dif_pos h]
  obtain ⟨⟨m', h1⟩, _⟩ := h.choose_spec
  rw [(h1.det hs).1]
theorem exOf_none {l : List It} (h : ∀ e m, Sp l 0 e m → 12 < e.depth) : exOf l = none := by
  unfold exOf
  rw [dif_neg]
  rintro ⟨e, ⟨m, hs⟩, hd⟩
  have := h e m hs; omega
theorem exOf_spec {l : List It} {e : Ex} (h : exOf l = some e) : (∃ m, Sp l 0 e m) ∧ e.depth ≤ 12 := by
  unfold exOf at h
  split at h
  · rename_i hx
    injection h with h
    rw [← h]; exact hx.choose_spec
  · cases h
theorem exOf_ok {l : List It} (hl : ∀ a ∈ l, a.bd) : okO (exOf l) := by
  cases h : exOf l with
  | none => trivial
  | some e =>
    obtain ⟨⟨m, hs⟩, hd⟩ := exOf_spec h
    exact ⟨hs.ok hl, hd⟩
theorem exOf_nil : exOf [] = none := exOf_none fun e m hs => by have := hs.le; simp at this; omega
noncomputable def mkOf (x : Mark) : Mk := ⟨x.kind, x.reg, x.mode, x.loc, exOf x.a, exOf x.b⟩
/-- The block that begins at a place of a row, and where it ends. -/
inductive BSp (l : List Mark) : Nat → Blk → Nat → Prop
  | out {k : Nat} : l[k]? = none → BSp l k .nil k
  | stop {k : Nat} {x : Mark} : l[k]? = some x → x.kind = 0 → BSp l k .nil k
  | plain {k m : Nat} {x : Mark} {r : Blk} : l[k]? = some x → x.kind ≠ 0 → x.kind ≠ 8 → x.kind ≠ 9 → BSp l (k + 1) r m → BSp l k (.cons (mkOf x) .nil .nil r) m
  | loop {k j m : Nat} {x : Mark} {t r : Blk} : l[k]? = some x → x.kind = 9 → BSp l (k + 1) t j → BSp l (j + 1) r m → BSp l k (.cons (mkOf x) t .nil r) m
  | cond {k j i m : Nat} {x : Mark} {t e r : Blk} : l[k]? = some x → x.kind = 8 → BSp l (k + 1) t j → BSp l (j + 1) e i → BSp l (i + 1) r m → BSp l k (.cons (mkOf x) t e r) m
theorem BSp.le {l : List Mark} {k m : Nat} {b : Blk} (h : BSp l k b m) : k + b.size ≤ m ∧ b.size + k ≤ max k l.length ∧ m ≤ k + 3 * b.size := by
  have lt : ∀ {k : Nat} {x : Mark}, l[k]? = some x → k < l.length := fun h => (List.getElem?_eq_some_iff.1 h).1
  induction h with
  | out _ => simp [Blk.size]; omega
  | stop _ _ => simp [Blk.size]; omega
  | plain hx _ _ _ _ ih => have := lt hx; simp only [Blk.size]; omega
  | loop hx _ _ _ ih1 ih2 => have := lt hx; simp only [Blk.size]; omega
  | cond hx _ _ _ _ ih1 ih2 ih3 => have := lt hx; simp only [Blk.size]; omega
theorem BSp.inv {l : List Mark} {j m : Nat} {r : Blk} (h : BSp l j r m) : (l[j]? = none ∧ r = .nil ∧ m = j) ∨ (∃ x, l[j]? = some x ∧ x.kind = 0 ∧ r = .nil ∧ m = j) ∨
    (∃ x r', l[j]? = some x ∧ x.kind ≠ 0 ∧ x.kind ≠ 8 ∧ x.kind ≠ 9 ∧ BSp l (j + 1) r' m ∧ r = .cons (mkOf x) .nil .nil r') ∨
    (∃ x t i r', l[j]? = some x ∧ x.kind = 9 ∧ BSp l (j + 1) t i ∧ BSp l (i + 1) r' m ∧ r = .cons (mkOf x) t .nil r') ∨
    (∃ x t i e i' r', l[j]? = some x ∧ x.kind = 8 ∧ BSp l (j + 1) t i ∧ BSp l (i + 1) e i' ∧ BSp l (i' + 1) r' m ∧ r = .cons (mkOf x) t e r') := by
  cases h with
  | out hx => exact .inl ⟨hx, rfl, rfl⟩
  | stop hx h0 => exact .inr (.inl ⟨_, hx, h0, rfl, rfl⟩)
  | plain hx h0 h8 h9 hr => exact .inr (.inr (.inl ⟨_, _, hx, h0, h8, h9, hr, rfl⟩))
  | loop hx h9 ht hr => exact .inr (.inr (.inr (.inl ⟨_, _, _, _, hx, h9, ht, hr, rfl⟩)))
  | cond hx h8 ht he hr => exact .inr (.inr (.inr (.inr ⟨_, _, _, _, _, _, hx, h8, ht, he, hr, rfl⟩)))
theorem BSp.ex (l : List Mark) : ∀ (n k : Nat), l.length - k < n → ∃ b m, BSp l k b m := by
  intro n
  induction n with
  | zero => intro k h; omega
  | succ n ih =>
    intro k hk
    cases hx : l[k]? with
    | none => exact ⟨_, _, .out hx⟩
    | some x =>
      have hlt := (List.getElem?_eq_some_iff.1 hx).1
      by_cases h0 : x.kind = 0
      · exact ⟨_, _, .stop hx h0⟩
      · obtain ⟨t, j, ht⟩ := ih (k + 1) (by omega)
        have hj := ht.le.1
        by_cases h8 : x.kind = 8
        · obtain ⟨e, i, he⟩ := ih (j + 1) (by omega)
          have hi := he.le.1
          obtain ⟨r, m, hr⟩ := ih (i + 1) (by omega)
          exact ⟨_, _, .cond hx h8 ht he hr⟩
        · by_cases h9 : x.kind = 9
          · obtain ⟨r, m, hr⟩ := ih (j + 1) (by omega)
            exact ⟨_, _, .loop hx h9 ht hr⟩
          · exact ⟨_, _, .plain hx h0 h8 h9 ht⟩
theorem BSp.fine {l : List Mark} (hl : ∀ x ∈ l, x.bd) {k m : Nat} {b : Blk} (h : BSp l k b m) : b.fine := by
  have one : ∀ {k : Nat} {x : Mark}, l[k]? = some x → okO (mkOf x).a ∧ okO (mkOf x).b ∧ (mkOf x).reg < 256 ∧ (mkOf x).mode < 256 ∧ (mkOf x).loc < 256 ∧ (mkOf x).kind < 256 := fun h => by
    obtain ⟨h1, h2, h3, h4, h5, h6⟩ := hl _ (List.mem_of_getElem? h)
    exact ⟨exOf_ok h5, exOf_ok h6, h2, h3, h4, h1⟩
  induction h with
  | out _ => trivial
  | stop _ _ => trivial
  | plain hx _ _ _ _ ih => obtain ⟨h1, h2, h3, h4, h5, h6⟩ := one hx; exact ⟨h1, h2, h3, h4, h5, h6, trivial, trivial, ih⟩
  | loop hx _ _ _ ih1 ih2 => obtain ⟨h1, h2, h3, h4, h5, h6⟩ := one hx; exact ⟨h1, h2, h3, h4, h5, h6, ih1, trivial, ih2⟩
  | cond hx _ _ _ _ ih1 ih2 ih3 => obtain ⟨h1, h2, h3, h4, h5, h6⟩ := one hx; exact ⟨h1, h2, h3, h4, h5, h6, ih1, ih2, ih3⟩
/-- What the law's own proper says of a mark that is a statement. -/
theorem BSp.proper {l : List Mark} (hl : ∀ x ∈ l, x.kind = 0 ∨ (mkOf x).proper) {k m : Nat} {b : Blk} (h : BSp l k b m) : b.proper := by
  have one : ∀ {k : Nat} {x : Mark}, l[k]? = some x → x.kind ≠ 0 → (mkOf x).proper := fun h h0 => (hl _ (List.mem_of_getElem? h)).resolve_left h0
  induction h with
  | out _ => trivial
  | stop _ _ => trivial
  | plain hx h0 h8 h9 _ ih => exact ⟨one hx h0, trivial, trivial, ih, fun _ => rfl, fun _ _ => rfl⟩
  | loop hx h9 _ _ ih1 ih2 => exact ⟨one hx (by omega), ih1, trivial, ih2, fun _ => rfl, fun _ h => absurd h9 h⟩
  | cond hx h8 _ _ _ ih1 ih2 ih3 => exact ⟨one hx (by omega), ih1, ih2, ih3, fun h => absurd h8 h, fun h _ => absurd h8 h⟩

/-! ### Marks in memory -/
def MarkAt (w : World) (g o : Nat) (x : Mark) (av bv : Value) : Prop :=
  w.cell? ⟨g, o, none⟩ = some (.int .u8 x.kind) ∧ w.cell? ⟨g, o + 1, none⟩ = some (.int .u8 x.reg) ∧ w.cell? ⟨g, o + 2, none⟩ = some (.int .u8 x.mode) ∧ w.cell? ⟨g, o + 3, none⟩ = some (.int .u8 x.loc) ∧
    w.cell? ⟨g, o + 4, none⟩ = some av ∧ w.cell? ⟨g, o + 5, none⟩ = some bv ∧ Row w av x.a ∧ Row w bv x.b
def MRow (w : World) (v : Value) (l : List Mark) : Prop :=
  (l = [] ∧ ∃ p cap, v = .slice p 0 cap) ∨ ∃ g o cap, v = .slice (some ⟨g, o, none⟩) l.length cap ∧ l.length ≤ 1000000 ∧ ∀ i x, l[i]? = some x → ∃ av bv, MarkAt w g (o + i * 6) x av bv
theorem MarkAt.below {w w' : World} {g o : Nat} {x : Mark} {av bv : Value} (h : MarkAt w g o x av bv) (hb : Below w.heap.size w w') : MarkAt w' g o x av bv := by
  obtain ⟨h0, h1, h2, h3, h4, h5, h6, h7⟩ := h
  have k := cell_below (U := any_) hb g trivial
  exact ⟨k _ _ h0, k _ _ h1, k _ _ h2, k _ _ h3, k _ _ h4, k _ _ h5, h6.below hb, h7.below hb⟩
theorem MRow.below {w w' : World} {v : Value} {l : List Mark} (h : MRow w v l) (hb : Below w.heap.size w w') : MRow w' v l := by
  rcases h with h | ⟨g, o, cap, hv, hl, h⟩
  · exact .inl h
  · exact .inr ⟨g, o, cap, hv, hl, fun i x hx => by obtain ⟨av, bv, h⟩ := h i x hx; exact ⟨av, bv, h.below hb⟩⟩
theorem MRow.len {w : World} {v : Value} {l : List Mark} (h : MRow w v l) : ∃ p cap, v = .slice p l.length cap ∧ l.length ≤ 1000000 := by
  rcases h with ⟨rfl, p, cap, hv⟩ | ⟨g, o, cap, hv, hl, _⟩
  · exact ⟨p, cap, hv, by simp⟩
  · exact ⟨_, cap, hv, hl⟩
theorem MRow.at {w : World} {v : Value} {l : List Mark} (h : MRow w v l) {i : Nat} {x : Mark} (hx : l[i]? = some x) : ∃ g o cap av bv, v = .slice (some ⟨g, o, none⟩) l.length cap ∧ i < l.length ∧ MarkAt w g (o + i * 6) x av bv := by
  have hi := (List.getElem?_eq_some_iff.1 hx).1
  rcases h with ⟨rfl, _⟩ | ⟨g, o, cap, hv, hl, h⟩
  · simp at hi
  · obtain ⟨av, bv, h⟩ := h i x hx
    exact ⟨g, o, cap, av, bv, hv, hi, h⟩

/-! ### An expression of a row -/
def ExMade (e0 : Option Ex) (w : World) (e : Ending) (w' : World) : Prop := ∃ p, e = .returned (.pointer p) ∧ Tree w' (trO e0) (.pointer p) ∧ Below w.heap.size w w'
set_option maxRecDepth 100000 in
theorem expr_any (l : List It) (v : Value) (w : World) (hv : Row w v l) : Calls Tryz.prog 24 #[v] w (ExMade (exOf l) w) := by
  have hG := good_any l v w hv
  rcases good_view l with ⟨z, hz, hbad⟩ | ⟨e, m, hs, hd, hz⟩
  · rw [hz] at hG
    have HG := Lib.hid hG
    have HN := Lib.hid (exOf_none hbad)
    obtain ⟨p, cap, rfl, _⟩ := hv.len
    clear hv hG hz hbad
    go_enter Tryz.func24, Tryz.ntmps24
    go_wp2_with fail
    refine HG.out.mono ?_
    rintro e w1 ⟨rfl, hb⟩
    have HB := Lib.hid hb; clear hb
    go_wp2_with fail
    go_ret
    exact ⟨none, rfl, by rw [HN.out]; rfl, HB.out⟩
  · rw [hz] at hG
    have HG := Lib.hid hG
    have HN := Lib.hid (exOf_some hs hd)
    have HO := Lib.hid (fun W (h : Below w.heap.size w W) => of_good hs hd v W (hv.below h))
    obtain ⟨p, cap, rfl, _⟩ := hv.len
    clear hv hG hz hs hd
    go_enter Tryz.func24, Tryz.ntmps24
    go_wp2_with fail
    refine HG.out.mono ?_
    rintro e' w1 ⟨rfl, hb⟩
    have HB := Lib.hid hb; clear hb
    go_wp2_with fail
    refine (HO.out _ HB.out).mono ?_
    rintro e' w2 ⟨q, rfl, ht, hb⟩
    have HB2 := Lib.hid (HB.out.trans (hb.mono HB.out.size))
    have HT := Lib.hid ht
    clear hb ht
    go_wp2_with fail
    go_ret
    exact ⟨q, rfl, by rw [HN.out]; exact HT.out, HB2.out⟩
set_option maxRecDepth 100000 in
theorem refExpr_any (l : List It) (hl : ∀ a ∈ l, a.bd) (hn : l.length ≤ 10000) (v : Value) (w : World) (hv : Row w v l) : Calls Tryz.prog 18 #[v] w fun e w' => Made (.returned (.string (str (exO (exOf l))))) w e w' := by
  have hE := end_any l (l.length + 1) 0 v w hv (by omega)
  have HT := Lib.hid (fun (e : Ex) (m : Nat) (hs : Sp l 0 e m) W (h : Below w.heap.size w W) => rtext_any hl hs v W hn (hv.below h))
  cases hx : endF l (l.length + 1) 0 with
  | none =>
    rw [hx] at hE
    have HE := Lib.hid (show Calls _ _ _ _ fun e w' => Made (.returned (.tuple #[.int .i64 (-1), .int .i64 0])) w e w' from hE)
    have HN := Lib.hid (show exOf l = none from exOf_none fun e m hs => by rw [sp_endF hs (l.length + 1) (by omega)] at hx; cases hx)
    obtain ⟨p, cap, rfl, _⟩ := hv.len
    rw [HN.out]
    show Calls _ _ _ _ fun e w' => Made (.returned (.string ⟨#[]⟩)) w e w'
    clear hv hE hx HT hl hn
    go_enter Tryz.func18, Tryz.ntmps18
    go_wp2_with fail
    refine HE.out.mono ?_
    rintro e w1 ⟨rfl, hb⟩
    have HB := Lib.hid hb; clear hb
    go_wp2_with fail
    go_ret
    exact ⟨rfl, HB.out⟩
  | some p =>
    obtain ⟨m, d⟩ := p
    obtain ⟨e, hs, rfl⟩ := endF_sp _ _ _ _ hx
    rw [hx] at hE
    have HE := Lib.hid (show Calls _ _ _ _ fun e' w' => Made (.returned (.tuple #[.int .i64 (m : Nat), .int .i64 (e.depth : Nat)])) w e' w' from hE)
    have i0 : (0 : Int) ≤ (m : Int) := by omega
    by_cases hd : e.depth ≤ 12
    · have HT2 := Lib.hid (fun W (h : Below w.heap.size w W) => HT.out e m hs W h)
      unfold RText at HT2
      rw [exOf_some hs hd]
      have i1 : (e.depth : Int) ≤ 12 := by omega
      obtain ⟨p, cap, rfl, _⟩ := hv.len
      show Calls _ _ _ _ fun e' w' => Made (.returned (.string (str e.text))) w e' w'
      generalize e.depth = dd at HE i1 hd
      generalize e.text = tx at HT2 ⊢
      clear hv hE hx HT hl hn hs hd
      go_enter Tryz.func18, Tryz.ntmps18
      go_wp2_with fail
      refine HE.out.mono ?_
      rintro e' w1 ⟨rfl, hb⟩
      have HB := Lib.hid hb; clear hb
      go_wp2_with fail
      refine (HT2.out _ HB.out).mono ?_
      rintro e' w2 ⟨rfl, hb⟩
      have HB2 := Lib.hid (HB.out.trans (hb.mono HB.out.size)); clear hb
      go_wp2_with fail
      go_ret
      exact ⟨rfl, HB2.out⟩
    · have HN := Lib.hid (show exOf l = none from exOf_none fun e' m' hs' => by
        rw [(hs'.det hs).1]; omega)
      have i1 : (12 : Int) < (e.depth : Int) := by omega
      obtain ⟨p, cap, rfl, _⟩ := hv.len
      rw [HN.out]
      show Calls _ _ _ _ fun e w' => Made (.returned (.string ⟨#[]⟩)) w e w'
      generalize e.depth = dd at HE i1 hd
      clear hv hE hx HT hl hn hs hd
      go_enter Tryz.func18, Tryz.ntmps18
      go_wp2_with fail
      refine HE.out.mono ?_
      rintro e' w1 ⟨rfl, hb⟩
      have HB := Lib.hid hb; clear hb
      go_wp2_with fail
      go_ret
      exact ⟨rfl, HB.out⟩
end Go.Proofs.YtpdpofoicdijlaaGreatDoor.Prog
