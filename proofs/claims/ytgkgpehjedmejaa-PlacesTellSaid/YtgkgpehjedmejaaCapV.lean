/- Layer 12 (cap): Capped. -/
import Derived.Test.YtgkgpehjedmejaaCapA
import Derived.Test.YtgkgpehjedmejaaMmrR
namespace Go.Proofs.Ytgkgpehjedmejaa.Cap
open Go.RowKit Go.Shelf Go.Proofs.Ytgkgpehjedmejaa.Mem Go.Proofs.Ytgkgpehjedmejaa.Flow Go.Proofs.Ytgkgpehjedmejaa.Mmr
attribute [local go_sem] Oper.semAt_some

/-! ### Rooms that are filled, plainly -/
theorem room_eq (loc : Int) (r : Int × Int) : roomI loc r = resI loc (roomI 0 r).a (roomI 0 r).b := by
  unfold roomI; split <;> rfl
theorem room_fit (r : Int × Int) : FitI (roomI 0 r) := by
  unfold roomI
  by_cases h : Spn.mayF r.1 r.2 = true
  · rw [if_pos h]; exact fit_may (x := resI 0 r.1 r.2) h
  · rw [if_neg h]; exact ⟨by decide, by decide⟩
theorem fill_append (m : Mm) (loc : Int) : ∀ (a b : List (Int × Int)), fillP m loc (a ++ b) = (fillP m loc a).bind fun f => fillP f loc b := by
  intro a
  induction a generalizing m with
  | nil => intro b; rfl
  | cons r a ih =>
    intro b
    show (if (addF m (roomI loc r)).2 = 0 then fillP (addF m (roomI loc r)).1 loc (a ++ b) else none) = Option.bind (if (addF m (roomI loc r)).2 = 0 then fillP (addF m (roomI loc r)).1 loc a else none) _
    by_cases h : (addF m (roomI loc r)).2 = 0
    · rw [if_pos h, if_pos h]; exact ih _ b
    · rw [if_neg h, if_neg h]; rfl
theorem fill_ok (loc : Int) : ∀ (a : List (Int × Int)) {m f : Mm}, OkM m → fillP m loc a = some f → OkM f
  | [], m, f, hO, h => by injection h with h; rw [← h]; exact hO
  | r :: a, m, f, hO, h => by
    have h' : (if (addF m (roomI loc r)).2 = 0 then fillP (addF m (roomI loc r)).1 loc a else none) = some f := h
    by_cases h0 : (addF m (roomI loc r)).2 = 0
    · rw [if_pos h0] at h'; exact fill_ok loc a (ok_add hO _) h'
    · rw [if_neg h0] at h'; cases h'
theorem fill_next {m f : Mm} {loc : Int} {pre : List (Int × Int)} (h : fillP m loc pre = some f) (r : Int × Int) : fillP m loc (pre ++ [r]) = if (addF f (roomI loc r)).2 = 0 then some (addF f (roomI loc r)).1 else none := by
  rw [fill_append, h]; rfl
theorem fill_stop {m : Mm} {loc : Int} {l : List (Int × Int)} {k : Nat} (h : fillP m loc (l.take k) = none) : fillP m loc l = none := by
  have e := fill_append m loc (l.take k) (l.drop k)
  rw [List.take_append_drop, h] at e; exact e
theorem up_none {m : Mm} {k : Nat} (h : upP m k = none) : ∀ j, upP m (k + j) = none
  | 0 => h
  | j + 1 => by
    show (upP m (k + j)).bind _ = none
    rw [up_none h j]; rfl
theorem cap_no {m : Mm} {k : Nat} (hk : k ≤ m.n) (h : upP m k = none) : capP m = (m, 4) := by
  unfold capP
  have := up_none h (m.n - k)
  rw [show k + (m.n - k) = m.n by omega] at this
  rw [this]
theorem cap_yes {m f : Mm} (h : upP m m.n = some f) : capP m = (f, 0) := by unfold capP; rw [h]

theorem Kept.row (B : Nat) (W : World) (cs : Array Value) : Kept B W (W.setRow B cs) := ⟨by simp [World.setRow], fun k _ hk e _ => (setRow_other W B k cs hk).trans e⟩
/-! ### What stays when the marks of ranges are taken -/
/-- Only blocks that are no cells have turned, and none of them below B. -/
structure Took (B : Nat) (W W' : World) : Prop where
  low : Below B W W'
  same : ∀ (k : Nat) (o : Obj), W.heap[k]? = some o → o.isCells = true → W'.heap[k]? = some o
theorem Took.refl (B : Nat) (W : World) : Took B W W := ⟨Below.refl _ _, fun _ _ h _ => h⟩
theorem Took.trans {B : Nat} {X Y Z : World} (h : Took B X Y) (h' : Took B Y Z) : Took B X Z := ⟨h.low.trans h'.low, fun k o e ho => h'.same k o (h.same k o e ho) ho⟩
theorem Took.cell {B : Nat} {X Y : World} (h : Took B X Y) {g i : Nat} {v : Value} (hc : X.cell? ⟨g, i, none⟩ = some v) : Y.cell? ⟨g, i, none⟩ = some v :=
  Kept.cell (B := X.heap.size) ⟨h.low.size, fun k o _ e ho => h.same k o e ho⟩ (Nat.ne_of_lt (World.block_lt_of_cell? _ _ hc)) hc
theorem Took.sits {B : Nat} {X Y : World} (h : Took B X Y) {g : Nat} {t : TypeId} {cs : Array Value} (hs : Sits X g t cs) : Sits Y g t cs := h.same g _ hs rfl
theorem Took.hold {B : Nat} {X Y : World} (h : Took B X Y) {p : Nat → Option Addr} {c : Nat → Nat} {m : Mm} (hh : Hold X p c m) : Hold Y p c m :=
  ⟨fun i hi k x hx => by
    obtain ⟨g, o, e, hg, hc⟩ := hh.row i hi k x hx
    refine ⟨g, o, e, Nat.lt_of_lt_of_le hg h.low.size, fun j hj => ?_⟩
    obtain ⟨u, hu⟩ : ∃ u, (itCells x)[j]? = some u := ⟨_, Array.getElem?_eq_getElem (show j < (itCells x).size from hj)⟩
    rw [hu]
    exact h.cell ((hc j hj).trans hu), hh.cap⟩
theorem took_grown {B : Nat} {W W' : World} {row : Option Nat} (hB : B ≤ W.heap.size) (hg : W.grownBy W' row) (hr : ∀ r, row = some r → B ≤ r ∧ ∃ o : Obj, W.heap[r]? = some o ∧ o.isCells = false) : Took B W W' :=
  ⟨⟨hg.os, hg.tape, hg.output, hg.size, fun k hk => hg.block k (by omega) (fun e => by have := (hr k e.symm).1; omega)⟩, fun k o e ho => by
    have hkl : k < W.heap.size := (Array.getElem?_eq_some_iff.1 e).1
    rw [hg.block k hkl (fun e' => by
      obtain ⟨_, o', h1, h2⟩ := hr k e'.symm
      rw [e] at h1; injection h1 with h1; subst h1; rw [ho] at h2; cases h2)]
    exact e⟩
theorem took_put {B : Nat} {W : World} {D : Nat} {o : Obj} (o' : Obj) (hD : B ≤ D) (h : W.heap[D]? = some o) (ho : o.isCells = false) : Took B W (W.putObj D o') :=
  ⟨⟨rfl, rfl, rfl, by simp [World.putObj], fun k hk => by simp only [World.putObj]; exact Array.getElem?_setIfInBounds_ne (by omega)⟩, fun k o2 e h2 => (Kept.put W.heap.size W D o o' h ho).same k o2 (Nat.ne_of_lt (Array.getElem?_eq_some_iff.1 e).1) e h2⟩

/-- A frame by the slots that matter, with marks of ranges to take. -/
def marks (ds : List Nat) : List Deferred := ds.map fun D => { target := .collected D, args := #[] }
structure FrD (n : Nat) (l : List (Nat × Value)) (ds : List Nat) (A : Act) : Prop where
  size : A.tmps.size = n
  defers : A.defers = marks ds
  at_ : ∀ x ∈ l, slot A.tmps x.1 = x.2
structure DsAt (B : Nat) (ds : List Nat) (W : World) : Prop where
  apart : ds.Pairwise fun x y => x ≠ y
  each : ∀ D ∈ ds, B ≤ D ∧ W.heap[D]? = some (.deferred (some []))
theorem DsAt.below {B : Nat} {ds : List Nat} {W W' : World} (h : DsAt B ds W) (hb : Below W.heap.size W W') : DsAt B ds W' :=
  ⟨h.apart, fun D hD => ⟨(h.each D hD).1, (hb.block D (Array.getElem?_eq_some_iff.1 (h.each D hD).2).1).trans (h.each D hD).2⟩⟩
theorem DsAt.row {B : Nat} {ds : List Nat} {W : World} (h : DsAt B ds W) {g : Nat} (hg : g < B) (cs : Array Value) : DsAt B ds (W.setRow g cs) :=
  ⟨h.apart, fun D hD => ⟨(h.each D hD).1, (setRow_other W g D cs (by have := (h.each D hD).1; omega)).trans (h.each D hD).2⟩⟩
theorem DsAt.took {B B' : Nat} {ds : List Nat} {W W' : World} (h : DsAt B ds W) (hB : ∀ D ∈ ds, D < B') (ht : Took B' W W') : DsAt B ds W' :=
  ⟨h.apart, fun D hD => ⟨(h.each D hD).1, (ht.low.block D (hB D hD)).trans (h.each D hD).2⟩⟩
theorem leaves_ds {F : Fence} {n : Nat} {P : Program} {fn : Func} {tmps : Array Value} {R : Ending → World → Prop} {B : Nat} : ∀ (ds : List Nat) (W : World), DsAt B ds W →
    (∀ W', Took B W W' → LeavesIn F n P fn tmps R [] .returning W') → LeavesInM F n P fn tmps R (marks ds) .returning W
  | [], W, _, h => h W (Took.refl _ _)
  | D :: ds, W, hd, h => by
    have hD := hd.each D List.mem_cons_self
    have ha := List.pairwise_cons.1 hd.apart
    refine ⟨by simp, .inl ⟨D, _, rfl, run_takeDeferred hD.2, ?_⟩⟩
    have ht := took_put (B := B) (.deferred none) hD.1 hD.2 rfl
    refine leaves_ds ds _ ⟨ha.2, fun E hE => ⟨(hd.each E (List.mem_cons_of_mem _ hE)).1, ?_⟩⟩ fun W' hW' => h W' (ht.trans hW')
    simp only [World.putObj]
    rw [Array.getElem?_setIfInBounds_ne (ha.1 E hE)]
    exact (hd.each E (List.mem_cons_of_mem _ hE)).2

abbrev zeroMm0 : Array Value := #[.slice none 0 0, .slice none 0 0, .slice none 0 0, .slice none 0 0, .int .i64 0]
theorem zero_plain : ∀ u ∈ zeroMm0.toList, ∀ k x y, u ≠ .complex k x y := by
  intro u hu k x y e
  have hu : u ∈ [Value.slice none 0 0, .slice none 0 0, .slice none 0 0, .slice none 0 0, .int .i64 0] := hu
  simp only [List.mem_cons, List.not_mem_nil, or_false] at hu
  rcases hu with rfl | rfl | rfl | rfl | rfl <;> cases e
structure CpAt (w : World) (p : Nat → Option Addr) (c : Nat → Nat) (m : Mm) (p' : Nat → Option Addr) (c' : Nat → Nat) (f : Mm) (W : World) : Prop where
  at1 : Sits W w.heap.size 28 (memCells p c m)
  at2 : Sits W (w.heap.size + 1) 28 zeroMm0
  at4 : Sits W (w.heap.size + 1 + 1) 28 (memCells p' c' f)
  hold : Hold W p c m
  hold' : Hold W p' c' f
  low : Below w.heap.size w W
section
variable {w W W' : World} {p p' p2 : Nat → Option Addr} {c c' c2 : Nat → Nat} {m f f2 : Mm}
theorem CpAt.grown (h : CpAt w p c m p' c' f W) (hb : Below W.heap.size W W') : CpAt w p c m p' c' f W' :=
  ⟨h.at1.below hb h.at1.lt, h.at2.below hb h.at2.lt, h.at4.below hb h.at4.lt, h.hold.below hb, h.hold'.below hb, h.low.trans (hb.mono h.low.size)⟩
theorem CpAt.took (h : CpAt w p c m p' c' f W) {B : Nat} (hB : w.heap.size ≤ B) (ht : Took B W W') : CpAt w p c m p' c' f W' :=
  ⟨ht.sits h.at1, ht.sits h.at2, ht.sits h.at4, ht.hold h.hold, ht.hold h.hold', h.low.trans (ht.low.mono hB)⟩
theorem CpAt.put4 (h : CpAt w p c m p' c' f W) (hh : Hold W p2 c2 f2) : CpAt w p c m p2 c2 f2 (W.setRow (w.heap.size + 1 + 1) (memCells p2 c2 f2)) :=
  ⟨(setRow_other W _ _ _ (by omega)).trans h.at1, (setRow_other W _ _ _ (by omega)).trans h.at2, setRow_heap W _ _ _ _ _ h.at4, hold_over h.hold h.at4 (mem_plain _ _ _) _, hold_over hh h.at4 (mem_plain _ _ _) _, row_low h.low (by omega) _⟩
end
theorem wp_scope_forward {P : Program} {a : Act} {w : World} {Q : Exit → Act → World → Prop} {c rest : Code} (l : Nat) (hf : findLabel c l = some rest)
    (first : c.wp P (Exit.jump l (fun a' w' => rest.wp P (Exit.noGoto Q) a' w') Q) a w) : (Code.scope c).wp P Q a w :=
  wp_scope_jumps l (fun a' w' => rest.wp P (Exit.noGoto Q) a' w') (fun _ _ => 0) hf first
    (fun _ _ h => wp_mono h (fun e _ _ hq => by cases e <;> first | exact hq | exact False.elim hq))
end Go.Proofs.Ytgkgpehjedmejaa.Cap
