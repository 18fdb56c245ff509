/- Layer 12 (cap): Capped. -/
import Derived.Test.YtokkcbhmmhmfmaaCapA
import Derived.Test.YtokkcbhmmhmfmaaMmrR
namespace Go.Proofs.Ytokkcbhmmhmfmaa.Cap
open Go.RowKit Go.Shelf Go.Proofs.Ytokkcbhmmhmfmaa.Mem Go.Proofs.Ytokkcbhmmhmfmaa.Flow Go.Proofs.Ytokkcbhmmhmfmaa.Mmr
attribute [local go_sem] Oper.semAt_some

/-! ### Rooms that are filled, plainly -/
theorem room_eq (loc : Int) (r : Int × Int) : roomI loc r = resI loc (roomI 0 r).a (roomI 0 r).b := by
  unfold roomI; split <;> rfl
theorem room_fit (r : Int × Int) : FitI (roomI 0 r) := by
  unfold roomI
  by_cases h : Spn.mayF r.1 r.2 = true
  · rw [if_pos h]; exact fit_may (x := resI 0 r.1 r.2) h
  · rw [if_neg h]; exact ⟨by decide, by decide⟩
theorem fill_append (m : Mm) (loc : Int) : ∀ (a b : List (Int × Int)), fillP m loc (a ++ b) = (fillP m loc a).bind fun f => fillP f loc b := by
  intro a
  induction a generalizing m with
  | nil => intro b; rfl
  | cons r a ih =>
    intro b
    show (if (addF m (roomI loc r)).2 = 0 then fillP (addF m (roomI loc r)).1 loc (a ++ b) else none) = Option.bind (if (addF m (roomI loc r)).2 = 0 then fillP (addF m (roomI loc r)).1 loc a else none) _
    by_cases h : (addF m (roomI loc r)).2 = 0
    · rw [if_pos h, if_pos h]; exact ih _ b
    · rw [if_neg h, if_neg h]; rfl
theorem fill_ok (loc : Int) : ∀ (a : List (Int × Int)) {m f : Mm}, OkM m → fillP m loc a = some f → OkM f
  | [], m, f, hO, h => by injection h with h; rw [← h]; exact hO
  | r :: a, m, f, hO, h => by
    have h' : (if (addF m (roomI loc r)).2 = 0 then fillP (addF m (roomI loc r)).1 loc a else none) = some f := h
    by_cases h0 : (addF m (roomI loc r)).2 = 0
    · rw [if_pos h0] at h'; exact fill_ok loc a (ok_add hO _) h'
    · rw [if_neg h0] at h'; cases h'
theorem fill_next {m f : Mm} {loc : Int} {pre : List (Int × Int)} (h : fillP m loc pre = some f) (r : Int × Int) : fillP m loc (pre ++ [r]) = if (addF f (roomI loc r)).2 = 0 then some (addF f (roomI loc r)).1 else none := by
  rw [fill_append, h]; rfl
theorem fill_stop {m : Mm} {loc : Int} {l : List (Int × Int)} {k : Nat} (h : fillP m loc (l.take k) = none) : fillP m loc l = none := by
  have e := fill_append m loc (l.take k) (l.drop k)
  rw [List.take_append_drop, h] at e; exact e
theorem up_none {m : Mm} {k : Nat} (h : upP m k = none) : ∀ j, upP m (k + j) = none
  | 0 => h
  | j + 1 => by
    show (upP m (k + j)).bind _ = none
    rw [up_none h j]; rfl
theorem cap_no {m : Mm} {k : Nat} (hk : k ≤ m.n) (h : upP m k = none) : capP m = (m, 4) := by
  unfold capP
  have := up_none h (m.n - k)
  rw [show k + (m.n - k) = m.n by omega] at this
  rw [this]
theorem cap_yes {m f : Mm} (h : upP m m.n = some f) : capP m = (f, 0) := by unfold capP; rw [h]

theorem Kept.row (B : Nat) (W : World) (cs : Array Value) : Kept B W (W.setRow B cs) := ⟨by simp [World.setRow], fun k _ hk e _ => (setRow_other W B k cs hk).trans e⟩
/-! ### What stays when the marks of ranges are taken -/
/-- Only blocks that are no cells have turned, and none of them below B. -/
structure Took (B : Nat) (W W' : World) : Prop where
  low : Below B W W'
  same : ∀ (k : Nat) (o : Obj), W.heap[k]? = some o → o.isCells = true → W'.heap[k]? = some o
theorem Took.refl (B : Nat) (W : World) : Took B W W := ⟨Below.refl _ _, fun _ _ h _ => h⟩
theorem Took.trans {B : Nat} {X Y Z : World} (h : Took B X Y) (h' : Took B Y Z) : Took B X Z := ⟨h.low.trans h'.low, fun k o e ho => h'.same k o (h.same k o e ho) ho⟩
theorem Took.cell {B : Nat} {X Y : World} (h : Took B X Y) {g i : Nat} {v : Value} (hc : X.cell? ⟨g, i, none⟩ = some v) : Y.cell? ⟨g, i, none⟩ = some v :=
  Kept.cell (B := X.heap.size) ⟨h.low.size, fun k o _ e ho => h.same k o e ho⟩ (Nat.ne_of_lt (World.block_lt_of_cell? _ _ hc)) hc
theorem Took.sits {B : Nat} {X Y : World} (h : Took B X Y) {g : Nat} {t : TypeId} {cs : Array Value} (hs : Sits X g t cs) : Sits Y g t cs := h.same g _ hs rfl
theorem Took.hold {B : Nat} {X Y : World} (h : Took B X Y) {p : Nat → Option Addr} {c : Nat → Nat} {m : Mm} (hh : Hold X p c m) : Hold Y p c m :=
  ⟨fun i hi k x hx => by
    obtain ⟨g, o, e, hg, hc⟩ := hh.row i hi k x hx
    refine ⟨g, o, e, Nat.lt_of_lt_of_le hg h.low.size, fun j hj => ?_⟩
    obtain ⟨u, hu⟩ : ∃ u, (itCells x)[j]? = some u := ⟨_, Array.getElem?_eq_getElem (show j < (itCells x).size from hj)⟩
    rw [hu]
    exact h.cell ((hc j hj).trans hu), hh.cap⟩
theorem took_grown {B : Nat} {W W' : World} {row : Option Nat} (hB : B ≤ W.heap.size) (hg : W.grownBy W' row) (hr : ∀ r, row = some r → B ≤ r ∧ ∃ o : Obj, W.heap[r]? = some o ∧ o.isCells = false) : Took B W W' :=
  ⟨⟨hg.os, hg.tape, hg.output, hg.size, fun k hk => hg.block k (by omega) (fun e => by have := (hr k e.symm).1; omega)⟩, fun k o e ho => by
    have hkl : k < W.heap.size := (Array.getElem?_eq_some_iff.1 e).1
    rw [hg.block k hkl (fun e' => by
      obtain ⟨_, o', h1, h2⟩ := hr k e'.symm
      rw [e] at h1; injection h1 with h1; subst h1; rw [ho] at h2; cases h2)]
    exact e⟩
theorem took_put {B : Nat} {W : World} {D : Nat} {o : Obj} (o' : Obj) (hD : B ≤ D) (h : W.heap[D]? = some o) (ho : o.isCells = false) : Took B W (W.putObj D o') :=
  ⟨⟨rfl, rfl, rfl, by simp [World.putObj], fun k hk => by simp only [World.putObj]; exact Array.getElem?_setIfInBounds_ne (by omega)⟩, fun k o2 e h2 => (Kept.put W.heap.size W D o o' h ho).same k o2 (Nat.ne_of_lt (Array.getElem?_eq_some_iff.1 e).1) e h2⟩

/-- A frame by the slots that matter, with marks of ranges to take. -/
def marks (ds : List Nat) : List Deferred := ds.map fun D => { target := .collected D, args := #[] }
structure FrD (n : Nat) (l : List (Nat × Value)) (ds : List Nat) (A : Act) : Prop where
  size : A.tmps.size = n
  defers : A.defers = marks ds
  at_ : ∀ x ∈ l, slot A.tmps x.1 = x.2
structure DsAt (B : Nat) (ds : List Nat) (W : World) : Prop where
  apart : ds.Pairwise fun x y => x ≠ y
  each : ∀ D ∈ ds, B ≤ D ∧ W.heap[D]? = some (.deferred (some []))
theorem DsAt.below {B : Nat} {ds : List Nat} {W W' : World} (h : DsAt B ds W) (hb : Below W.heap.size W W') : DsAt B ds W' :=
  ⟨h.apart, fun D hD => ⟨(h.each D hD).1, (hb.block D (Array.getElem?_eq_some_iff.1 (h.each D hD).2).1).trans (h.each D hD).2⟩⟩
theorem DsAt.row {B : Nat} {ds : List Nat} {W : World} (h : DsAt B ds W) {g : Nat} (hg : g < B) (cs : Array Value) : DsAt B ds (W.setRow g cs) :=
  ⟨h.apart, fun D hD => ⟨(h.each D hD).1, (setRow_other W g D cs (by have := (h.each D hD).1; omega)).trans (h.each D hD).2⟩⟩
theorem DsAt.took {B B' : Nat} {ds : List Nat} {W W' : World} (h : DsAt B ds W) (hB : ∀ D ∈ ds, D < B') (ht : Took B' W W') : DsAt B ds W' :=
  ⟨h.apart, fun D hD => ⟨(h.each D hD).1, (ht.low.block D (hB D hD)).trans (h.each D hD).2⟩⟩
theorem leaves_ds {F : Fence} {n : Nat} {P : Program} {fn : Func} {tmps : Array Value} {R : Ending → World → Prop} {B : Nat} : ∀ (ds : List Nat) (W : World), DsAt B ds W →
    (∀ W', Took B W W' → LeavesIn F n P fn tmps R [] .returning W') → LeavesInM F n P fn tmps R (marks ds) .returning W
  | [], W, _, h => h W (Took.refl _ _)
  | D :: ds, W, hd, h => by
    have hD := hd.each D List.mem_cons_self
    have ha := List.pairwise_cons.1 hd.apart
    refine ⟨by simp, .inl ⟨D, _, rfl, run_takeDeferred hD.2, ?_⟩⟩
    have ht := took_put (B := B) (.deferred none) hD.1 hD.2 rfl
    refine leaves_ds ds _ ⟨ha.2, fun E hE => ⟨(hd.each E (List.mem_cons_of_mem _ hE)).1, ?_⟩⟩ fun W' hW' => h W' (ht.trans hW')
    simp only [World.putObj]
    rw [Array.getElem?_setIfInBounds_ne (ha.1 E hE)]
    exact (hd.each E (List.mem_cons_of_mem _ hE)).2

abbrev zeroMm0 : Array Value := #[.slice none 0 0, .slice none 0 0, .slice none 0 0, .slice none 0 0, .int .i64 0]
theorem zero_plain : ∀ u ∈ zeroMm0.toList, ∀ k x y, u ≠ .complex k x y := by
  intro u hu k x y e
  have hu : u ∈ [Value.slice none 0 0, .slice none 0 0, .slice none 0 0, .slice none 0 0, .int .i64 0] := hu
  simp only [List.mem_cons, List.not_mem_nil, or_false] at hu
  rcases hu with rfl | rfl | rfl | rfl | rfl <;> cases e
structure CpAt (w : World) (p : Nat → Option Addr) (c : Nat → Nat) (m : Mm) (p' : Nat → Option Addr) (c' : Nat → Nat) (f : Mm) (W : World) : Prop where
  at1 : Sits W w.heap.size 31 (memCells p c m)
  at2 : Sits W (w.heap.size + 1) 31 zeroMm0
  at4 : Sits W (w.heap.size + 1 + 1) 31 (memCells p' c' f)
  hold : Hold W p c m
  hold' : Hold W p' c' f
  low : Below w.heap.size w W
section
variable {w W W' : World} {p p' p2 : Nat → Option Addr} {c c' c2 : Nat → Nat} {m f f2 : Mm}
theorem CpAt.grown (h : CpAt w p c m p' c' f W) (hb : Below W.heap.size W W') : CpAt w p c m p' c' f W' :=
  ⟨h.at1.below hb h.at1.lt, h.at2.below hb h.at2.lt, h.at4.below hb h.at4.lt, h.hold.below hb, h.hold'.below hb, h.low.trans (hb.mono h.low.size)⟩
theorem CpAt.took (h : CpAt w p c m p' c' f W) {B : Nat} (hB : w.heap.size ≤ B) (ht : Took B W W') : CpAt w p c m p' c' f W' :=
  ⟨ht.sits h.at1, ht.sits h.at2, ht.sits h.at4, ht.hold h.hold, ht.hold h.hold', h.low.trans (ht.low.mono hB)⟩
theorem CpAt.put4 (h : CpAt w p c m p' c' f W) (hh : Hold W p2 c2 f2) : CpAt w p c m p2 c2 f2 (W.setRow (w.heap.size + 1 + 1) (memCells p2 c2 f2)) :=
  ⟨(setRow_other W _ _ _ (by omega)).trans h.at1, (setRow_other W _ _ _ (by omega)).trans h.at2, setRow_heap W _ _ _ _ _ h.at4, hold_over h.hold h.at4 (mem_plain _ _ _) _, hold_over hh h.at4 (mem_plain _ _ _) _, row_low h.low (by omega) _⟩
end
theorem wp_scope_forward {P : Program} {a : Act} {w : World} {Q : Exit → Act → World → Prop} {c rest : Code} (l : Nat) (hf : findLabel c l = some rest)
    (first : c.wp P (Exit.jump l (fun a' w' => rest.wp P (Exit.noGoto Q) a' w') Q) a w) : (Code.scope c).wp P Q a w :=
  wp_scope_jumps l (fun a' w' => rest.wp P (Exit.noGoto Q) a' w') (fun _ _ => 0) hf first
    (fun _ _ h => wp_mono h (fun e _ _ hq => by cases e <;> first | exact hq | exact False.elim hq))
set_option maxRecDepth 100000 in
set_option maxHeartbeats 4000000 in
theorem capped_any (p : Nat → Option Addr) (c : Nat → Nat) (m : Mm) (hO : OkM m) (w : World) (hH : Hold w p c m) :
    Calls Try.prog 32 #[memV p c m] w (GivesE (capP m) w) := by
  have H0 : Hid (CpAt w p c m p c m (((w.alloc (.cells (memCells p c m) 31)).alloc (.cells zeroMm0 31)).alloc (.cells (memCells p c m) 31))) := Lib.hid
    ⟨((Sits.new _ _ _).alloc _).alloc _, (Sits.made (by simp) _ _).alloc _, Sits.made (by simp) _ _, hH.below (Vew.below3 _ _ _ _), hH.below (Vew.below3 _ _ _ _), Vew.below3 _ _ _ _⟩
  have HO := Lib.hid hO
  clear hO hH
  refine (callsIn_wide (n := 5)).1 ?_
  refine callsIn_of_wp_marks Try.func32 rfl trivial ?_ rfl
  simp only [Try.ntmps32, List.size_toArray, List.length_cons, List.length_nil, Nat.reduceAdd, Nat.reduceSub, Array.replicate_succ, Array.replicate_zero, List.push_toArray, List.append_toArray, List.nil_append, List.cons_append]
  refine wpIn_wide.2 ?_
  go_wp2_with fail
  refine wp_scope_forward 0 rfl ?_
  go_upto_region 2 with (fail)
  generalize ((w.alloc (.cells (memCells p c m) 31)).alloc (.cells zeroMm0 31)).alloc (.cells (memCells p c m) 31) = w0 at H0 ⊢
  have b0 : w0.cell? ⟨w.heap.size, 0, none⟩ = some (.slice (p 0) (m.row 0).length (c 0)) := H0.out.at1.cell 0
  have b1 : w0.cell? ⟨w.heap.size, 1, none⟩ = some (.slice (p 1) (m.row 1).length (c 1)) := H0.out.at1.cell 1
  have b2 : w0.cell? ⟨w.heap.size, 2, none⟩ = some (.slice (p 2) (m.row 2).length (c 2)) := H0.out.at1.cell 2
  have b3 : w0.cell? ⟨w.heap.size, 3, none⟩ = some (.slice (p 3) (m.row 3).length (c 3)) := H0.out.at1.cell 3
  have b4 : w0.cell? ⟨w.heap.size, 4, none⟩ = some (.int .i64 (m.n : Nat)) := H0.out.at1.cell 4
  have lb := H0.out.at1.lt
  go_wp2_with fail
  refine (locs_any p c m w0).mono ?_
  rintro e w1 ⟨rfl, hb⟩
  have H1 := Lib.hid (H0.out.grown hb)
  clear hb H0 b0 b1 b2 b3 b4 lb
  go_wp2_with fail
  refine wp_loop_ghost_k (fun n A W => ∃ (k : Nat) (p' : Nat → Option Addr) (c' : Nat → Nat) (f : Mm) (ds : List Nat), k ≤ m.n ∧ n = m.n - k ∧ FrD 34 [(1, .pointer (some ⟨w.heap.size, 0, none⟩)), (2, .pointer (some ⟨w.heap.size + 1, 0, none⟩)), (4, .pointer (some ⟨w.heap.size + 1 + 1, 0, none⟩)), (11, .int .i64 (m.n : Nat)), (12, .int .i64 (k : Nat))] ds A ∧ CpAt w p c m p' c' f W ∧ DsAt (w.heap.size + 3) ds W ∧ upP m k = some f ∧ OkM f) m.n ?_ ?_
  · exact ⟨0, p, c, m, [], by omega, by omega, ⟨rfl, rfl, by simp only [List.mem_cons, List.not_mem_nil, or_false, forall_eq_or_imp, forall_eq]; exact ⟨rfl, rfl, rfl, rfl, rfl⟩⟩, H1.out, ⟨List.Pairwise.nil, fun D hD => by simp at hD⟩, rfl, HO.out⟩
  · rintro n ⟨T, D⟩ wr ⟨k, p', c', f, ds, hk, rfl, hF, hW, hD, hU, hOf⟩ J K hJ hK
    obtain ⟨hsz, hdf, hat⟩ := hF
    simp only [List.mem_cons, List.not_mem_nil, or_false, forall_eq_or_imp, forall_eq] at hsz hdf hat
    obtain ⟨q0, q1, q2, q3, q4⟩ := hat
    subst hdf
    have hsp := spread T 34 hsz
    simp only [List.range, List.range.loop, List.map_cons, List.map_nil, q0, q1, q2, q3, q4] at hsp
    rw [hsp]
    clear hsp hsz q0 q1 q2 q3 q4
    have HW := Lib.hid hW
    have HD := Lib.hid hD
    have HU := Lib.hid hU
    have HOf := Lib.hid hOf
    clear hW hD hU hOf H1
    by_cases hlt : k < m.n
    · have j1 : (k : Int) < (m.n : Int) := by omega
      have HK := Lib.hid hlt
      clear hlt hk
      have S5 := Lib.hid (Sits.new wr 3 #[.int .i64 (k : Nat)])
      have HW1 := Lib.hid (HW.out.grown (one_low wr (.cells #[.int .i64 (k : Nat)] 3)))
      have HD1 := Lib.hid (HD.out.below (one_low wr (.cells #[.int .i64 (k : Nat)] 3)))
      have G5 : Hid (w.heap.size + 3 ≤ wr.heap.size) := Lib.hid (by have := HW.out.at4.lt; omega)
      go_upto_region 5 with (fail)
      generalize wr.alloc (.cells #[.int .i64 (k : Nat)] 3) = w2 at S5 HW1 HD1 ⊢
      generalize wr.heap.size = g5 at S5 G5 ⊢
      clear HW HD
      have b0 : w2.cell? ⟨w.heap.size, 0, none⟩ = some (.slice (p 0) (m.row 0).length (c 0)) := HW1.out.at1.cell 0
      have b1 : w2.cell? ⟨w.heap.size, 1, none⟩ = some (.slice (p 1) (m.row 1).length (c 1)) := HW1.out.at1.cell 1
      have b2 : w2.cell? ⟨w.heap.size, 2, none⟩ = some (.slice (p 2) (m.row 2).length (c 2)) := HW1.out.at1.cell 2
      have b3 : w2.cell? ⟨w.heap.size, 3, none⟩ = some (.slice (p 3) (m.row 3).length (c 3)) := HW1.out.at1.cell 3
      have b4 : w2.cell? ⟨w.heap.size, 4, none⟩ = some (.int .i64 (m.n : Nat)) := HW1.out.at1.cell 4
      have lb := HW1.out.at1.lt
      have c5 : w2.cell? ⟨g5, 0, none⟩ = some (.int .i64 (k : Nat)) := S5.out.cell 0
      have l5 := S5.out.lt
      go_wp2_with fail
      refine (list_any p c m HO.out (k : Int) w2 HW1.out.hold).mono ?_
      rintro e w3 ⟨r, d, rfl, hr, hb⟩
      have HLF : Hid (listF m (k : Int) = m.row k) := Lib.hid (by unfold listF; rw [if_pos (has_iff.2 ⟨by omega, by have := HK.out; omega⟩)]; simp)
      rw [HLF.out] at hr ⊢
      have HR := Lib.hid hr
      have HW3 := Lib.hid (HW1.out.grown hb)
      have HD3 := Lib.hid (HD1.out.below hb)
      have S5b := Lib.hid (S5.out.below hb S5.out.lt)
      clear hr hb b0 b1 b2 b3 b4 lb c5 l5 HW1 HD1 S5
      go_wp2_with fail
      refine (rooms_any r (m.row k).length d w3).mono ?_
      rintro e w4 ⟨rfl, rfl⟩
      have SB := Lib.hid (Sits.new w3 28 #[.slice r (m.row k).length d])
      have HW4 := Lib.hid (HW3.out.grown (one_low w3 (.cells #[.slice r (m.row k).length d] 28)))
      have HD4 := Lib.hid (HD3.out.below (one_low w3 (.cells #[.slice r (m.row k).length d] 28)))
      have S5c := Lib.hid (S5b.out.alloc (.cells #[.slice r (m.row k).length d] 28))
      have HR4 := Lib.hid (HR.out.below (one_low w3 (.cells #[.slice r (m.row k).length d] 28)))
      have GB : Hid (w.heap.size + 3 ≤ w3.heap.size) := Lib.hid (by have := HW3.out.at4.lt; omega)
      go_upto_block 2 with fail
      generalize w3.alloc (.cells #[.slice r (m.row k).length d] 28) = w4 at SB HW4 HD4 S5c HR4 ⊢
      generalize w3.heap.size = gb at SB GB ⊢
      clear HW3 HD3 S5b HR
      have HL1 := Lib.hid (HO.out.each k HK.out)
      have HFW := Lib.hid (HO.out.few k)
      have HMY := Lib.hid (HO.out.may k)
      obtain ⟨g, o, hp⟩ : ∃ g o, r = some ⟨g, o, none⟩ := by
        obtain ⟨g, o, hp, _, _⟩ := HR4.out.at (List.getElem?_eq_getElem (by have := HL1.out.one; omega : 0 < (m.row k).length))
        exact ⟨g, o, hp⟩
      subst hp
      have HGN : Hid (g ≠ w.heap.size + 1 + 1) := Lib.hid (by
        obtain ⟨g', o', e', hne, _⟩ := its_far HW4.out.at4 (mem_plain _ _ _) HR4.out 0 _ (List.getElem?_eq_getElem (by have := HL1.out.one; omega : 0 < (m.row k).length))
        injection e' with e'; injection e' with e1 e2; subst e1; exact hne)
      have HDS : Hid (∀ E ∈ ds, E < w4.heap.size) := Lib.hid fun E hE => (Array.getElem?_eq_some_iff.1 (HD4.out.each E hE).2).1
      have HLW : Hid (w.heap.size + 1 + 1 < w4.heap.size) := Lib.hid HW4.out.at4.lt
      have HN1 := Lib.hid (show (m.row k).length ≤ 1000 by have := HFW.out; omega)
      go_wp2_with fail
      refine (wpIn_wide (n := 5)).1 ?_
      refine wpIn_rangeFunc_ownH (α := Int × Int) rfl (by decide) (gf := 74) (lb := #[.pointer (some ⟨gb, 0, none⟩)]) rfl trivial rooms1_enters
        (encs := fun r => #[spanV r]) (Kp := Kept (w.heap.size + 1 + 1)) (S := fun ys => ys = rooms 0 (m.row k)) (Sp := fun pre => ∃ j, pre = (rooms 0 (m.row k)).take j) (N := (m.row k).length + 1) (w0 := w4)
        (fun l Jr Jx W hW hJ _ hY h0 => rooms1_in l gb (w.heap.size + 1 + 1) g o d (m.row k) HN1.out HGN.out HMY.out Jr Jx W (Nat.lt_of_lt_of_le HLW.out hW.size) hJ hY
          ((hW.cell (p := ⟨gb, 0, none⟩) SB.out.lt).trans (SB.out.cell 0)) (fun n x hx => by
            obtain ⟨g', o', e', hg', hc⟩ := HR4.out.there hx
            injection e' with e'; injection e' with e1 e2; subst e1 e2
            exact itAt_below hc hW hg') h0)
        (fun h h' => h.trans h') (fun W l o1 o' _ h2 h3 _ => Kept.put _ W l o1 o' h2 h3) (Below.refl _ _) (fun _ => rfl)
        (fun pre W => ∃ p' c' f', fillP f (k : Int) pre = some f' ∧ CpAt w p c m p' c' f' W ∧ DsAt (w.heap.size + 3) ds W ∧ Sits W g5 3 #[.int .i64 (k : Nat)] ∧ w4.heap.size ≤ W.heap.size ∧ OkM f')
        (fun q pre W => q = .goto 0 ∧ fillP f (k : Int) pre = none ∧ (∃ p' c' f', CpAt w p c m p' c' f' W) ∧ DsAt (w.heap.size + 3) ds W ∧ w4.heap.size ≤ W.heap.size)
        (fun s W W' row ⟨p', c', f', h1, h2, h3, h4, h5, h6⟩ hg hr => by
          have ht := took_grown h5 hg hr
          exact ⟨p', c', f', h1, h2.took (by have := HLW.out; omega) ht, h3.took HDS.out ht, ht.sits h4, Nat.le_trans h5 hg.size, h6⟩)
        (fun q s W W' row ⟨h1, h2, ⟨p', c', f', h3⟩, h4, h5⟩ hg hr => by
          have ht := took_grown h5 hg hr
          exact ⟨h1, h2, ⟨p', c', f', h3.took (by have := HLW.out; omega) ht⟩, h4.took HDS.out ht, Nat.le_trans h5 hg.size⟩)
        ⟨p', c', f, rfl, HW4.out, HD4.out, S5c.out, Nat.le_refl _, HOf.out⟩
        (fun x a' W => FrD 34 [(1, .pointer (some ⟨w.heap.size, 0, none⟩)), (2, .pointer (some ⟨w.heap.size + 1, 0, none⟩)), (4, .pointer (some ⟨w.heap.size + 1 + 1, 0, none⟩)), (5, .pointer (some ⟨g5, 0, none⟩)), (6, spanV x)] [] a')
        (fun x a' _ X Y row hs _ _ => hs)
        ?assign ?body ?done ?stop
      case assign =>
        rintro l pre x W K hI hK
        gi_wp2
        refine hK _ _ (KeepsFrom.refl _ _) (Kept.refl _ _) hI ?_
        exact ⟨rfl, rfl, by simp only [List.mem_cons, List.not_mem_nil, or_false, forall_eq_or_imp, forall_eq]; exact ⟨rfl, rfl, rfl, rfl, rfl⟩⟩
      case body =>
        rintro l pre x ⟨T2, D2⟩ W hl ⟨lr, hlr⟩ ⟨p2, c2, f2, hf, hCp, hDs, h5, hsz, hof⟩ hF hlt
        obtain ⟨hs2, hdf, hat⟩ := hF
        simp only [List.mem_cons, List.not_mem_nil, or_false, forall_eq_or_imp, forall_eq] at hs2 hdf hat
        obtain ⟨q0, q1, q2, q3, q4⟩ := hat
        subst hdf
        have hsp := spread T2 34 hs2
        simp only [List.range, List.range.loop, List.map_cons, List.map_nil, q0, q1, q2, q3, q4] at hsp
        rw [hsp]
        clear hsp hs2 q0 q1 q2 q3 q4
        have HF := Lib.hid hf
        have HCp := Lib.hid hCp
        have HDs := Lib.hid hDs
        have H5 := Lib.hid h5
        have HSZ := Lib.hid hsz
        have HOF := Lib.hid hof
        have HFN := Lib.hid (fill_next hf x)
        have HRE := Lib.hid (room_eq (k : Int) x)
        have HFT := Lib.hid (show (roomI 0 x).a.natAbs < 2 ^ 53 ∧ (roomI 0 x).b.natAbs < 2 ^ 53 from room_fit x)
        clear hf hCp hDs h5 hsz hof hl hlr hlt
        rw [HRE.out] at HFN
        unfold spanV
        generalize (roomI 0 x).a = ra at HFN HFT HRE ⊢
        generalize (roomI 0 x).b = rb at HFN HFT HRE ⊢
        have b0 : W.cell? ⟨w.heap.size + 1 + 1, 0, none⟩ = some (.slice (p2 0) (f2.row 0).length (c2 0)) := HCp.out.at4.cell 0
        have b1 : W.cell? ⟨w.heap.size + 1 + 1, 1, none⟩ = some (.slice (p2 1) (f2.row 1).length (c2 1)) := HCp.out.at4.cell 1
        have b2 : W.cell? ⟨w.heap.size + 1 + 1, 2, none⟩ = some (.slice (p2 2) (f2.row 2).length (c2 2)) := HCp.out.at4.cell 2
        have b3 : W.cell? ⟨w.heap.size + 1 + 1, 3, none⟩ = some (.slice (p2 3) (f2.row 3).length (c2 3)) := HCp.out.at4.cell 3
        have b4 : W.cell? ⟨w.heap.size + 1 + 1, 4, none⟩ = some (.int .i64 (f2.n : Nat)) := HCp.out.at4.cell 4
        have lb := HCp.out.at4.lt
        have c5 : W.cell? ⟨g5, 0, none⟩ = some (.int .i64 (k : Nat)) := H5.out.cell 0
        have l5 := H5.out.lt
        have HC := Lib.hid (add_any p2 c2 f2 HOF.out (resI (k : Int) ra rb) HFT.out W HCp.out.hold')
        obtain ⟨m3, e3, hm3⟩ : ∃ m3 e3, addF f2 (resI (k : Int) ra rb) = (m3, e3) := ⟨_, _, rfl⟩
        have HOK3 := Lib.hid (show OkM m3 by have := ok_add HOF.out (resI (k : Int) ra rb); rw [hm3] at this; exact this)
        rw [hm3] at HC HFN
        clear hm3
        gi_wp2_with fail
        refine ⟨trivial, ?_⟩
        refine (CallsIn.inRound l (callsIn_wide.2 HC.out)).mono ?_
        rintro e W2 ⟨p3, c3, rfl, hh, hb⟩
        dsimp only at hh ⊢
        have S7 := Lib.hid (Sits.new W2 31 (memCells p3 c3 m3))
        have HB7 : Hid (Below W.heap.size W (W2.alloc (.cells (memCells p3 c3 m3) 31))) := Lib.hid (hb.trans ((one_low W2 (.cells (memCells p3 c3 m3) 31)).mono hb.size))
        have HH7 := Lib.hid (hh.below (one_low W2 (.cells (memCells p3 c3 m3) 31)))
        have HCp7 := Lib.hid (HCp.out.grown HB7.out)
        have HDs7 := Lib.hid (HDs.out.below HB7.out)
        have H57 := Lib.hid (H5.out.below HB7.out H5.out.lt)
        clear hh hb HC b0 b1 b2 b3 b4 lb c5 l5
        by_cases he : e3 = 0
        · subst he
          have HYES : Hid (fillP f (k : Int) (pre ++ [x]) = some m3) := Lib.hid (by rw [HFN.out, if_pos rfl])
          gi_wp2_with (refine wpListIn_store_row rfl 31 _ _ rfl (w.heap.size + 1 + 1) (memCells p3 c3 m3) rfl rfl 31 _ HCp7.out.at4 memSize rfl (mem_one _ _ _) ?_)
          exact ⟨(keeps_below HB7.out).trans (keeps_cells HCp7.out.at4 _), (Kept.below HB7.out).trans (Kept.row _ _ _), p3, c3, m3, HYES.out, HCp7.out.put4 HH7.out, HDs7.out.row (by omega) _, (setRow_other _ _ _ _ (by have := G5.out; omega)).trans H57.out, by have := HSZ.out; have := HB7.out.size; simp [World.setRow] at *; omega, HOK3.out⟩
        · have he' : (e3 != 0) = true := by simpa using he
          have HNO : Hid (fillP f (k : Int) (pre ++ [x]) = none) := Lib.hid (by rw [HFN.out, if_neg he])
          clear he
          gi_wp2_with fail
          refine wpIn_goto ?_
          exact ⟨keeps_below HB7.out, rfl, HNO.out, ⟨_, _, _, HCp7.out⟩, HDs7.out, Nat.le_trans HSZ.out HB7.out.size⟩
      case done =>
        rintro D ys W hD rfl ⟨p2, c2, f2, hf, hCp, hDs, h5, hsz, hof⟩ hK2
        have HCp := Lib.hid hCp
        have HU2 : Hid (upP m (k + 1) = some f2) := Lib.hid (by
          show (upP m k).bind _ = some f2
          rw [HU.out]
          show fillP f (k : Int) (rooms 0 (listF m (k : Int))) = some f2
          rw [HLF.out]; exact hf)
        have HD2 : Hid (DsAt (w.heap.size + 3) (D :: ds) W) := Lib.hid ⟨List.pairwise_cons.2 ⟨fun E hE => by have := HDS.out E hE; omega, hDs.apart⟩, fun E hE => by
          rcases List.mem_cons.1 hE with rfl | hE
          · exact ⟨by have := HLW.out; omega, hK2⟩
          · exact hDs.each E hE⟩
        have HOF := Lib.hid hof
        clear hf hCp hDs h5 hsz hof hK2 hD
        have hwr := IntWalk.i64_in ((k : Int) + 1) (by have := HO.out.most; have := HK.out; omega)
        go_wp2_with fail
        refine Handed.intro (m.n - (k + 1)) (by have := HK.out; omega) ?_
        refine hJ _ _ _ ?_
        exact ⟨k + 1, p2, c2, f2, D :: ds, by have := HK.out; omega, rfl, ⟨rfl, rfl, by simp only [List.mem_cons, List.not_mem_nil, or_false, forall_eq_or_imp, forall_eq]; exact ⟨rfl, rfl, rfl, rfl, rfl⟩⟩, HCp.out, HD2.out, HU2.out, HOF.out⟩
      case stop =>
        rintro D q pre W hD ⟨j, hpre⟩ ⟨rfl, hnone, ⟨p2, c2, f2, hCp⟩, hDs, hsz⟩ hK2
        refine wpIn_goto ?_
        show _ ∧ _
        refine ⟨rfl, ?_⟩
        have HCX := Lib.hid hCp
        have HDX : Hid (DsAt (w.heap.size + 3) (D :: ds) W) := Lib.hid ⟨List.pairwise_cons.2 ⟨fun E hE => by have := HDS.out E hE; omega, hDs.apart⟩, fun E hE => by
          rcases List.mem_cons.1 hE with rfl | hE
          · exact ⟨by have := HLW.out; omega, hK2⟩
          · exact hDs.each E hE⟩
        have HCAP : Hid (capP m = (m, 4)) := Lib.hid (cap_no (k := k + 1) (by have := HK.out; omega) (by
          show (upP m k).bind _ = none
          rw [HU.out]
          show fillP f (k : Int) (rooms 0 (listF m (k : Int))) = none
          rw [HLF.out]
          rw [hpre] at hnone
          exact fill_stop hnone))
        clear hCp hDs hsz hK2 hD hpre hnone
        have b0 : W.cell? ⟨w.heap.size, 0, none⟩ = some (.slice (p 0) (m.row 0).length (c 0)) := (HCX.out.at1).cell 0
        have b1 : W.cell? ⟨w.heap.size, 1, none⟩ = some (.slice (p 1) (m.row 1).length (c 1)) := (HCX.out.at1).cell 1
        have b2 : W.cell? ⟨w.heap.size, 2, none⟩ = some (.slice (p 2) (m.row 2).length (c 2)) := (HCX.out.at1).cell 2
        have b3 : W.cell? ⟨w.heap.size, 3, none⟩ = some (.slice (p 3) (m.row 3).length (c 3)) := (HCX.out.at1).cell 3
        have b4 : W.cell? ⟨w.heap.size, 4, none⟩ = some (.int .i64 (m.n : Nat)) := (HCX.out.at1).cell 4
        have lb := (HCX.out.at1).lt
        go_wp2_with (refine wpList_store_row rfl 31 _ _ rfl (w.heap.size + 1) (memCells p c m) rfl rfl 31 _ HCX.out.at2 memSize rfl (mem_one _ _ _) ?_)
        have HF2 : Hid (Sits (W.setRow (w.heap.size + 1) (memCells p c m)) (w.heap.size + 1) 31 (memCells p c m) ∧ Hold (W.setRow (w.heap.size + 1) (memCells p c m)) p c m ∧ Below w.heap.size w (W.setRow (w.heap.size + 1) (memCells p c m))) := Lib.hid
          ⟨setRow_heap W _ _ _ _ _ HCX.out.at2, hold_over HCX.out.hold HCX.out.at2 zero_plain _, row_low HCX.out.low (by omega) _⟩
        have HD3 := Lib.hid (HDX.out.row (g := w.heap.size + 1) (by omega) (memCells p c m))
        generalize W.setRow (w.heap.size + 1) (memCells p c m) = WF at HF2 HD3 ⊢
        go_wp2_with fail
        refine leaves_ds (B := w.heap.size + 3) (D :: ds) WF HD3.out fun WG ht => ?_
        have r0 : WG.cell? ⟨w.heap.size + 1, 0, none⟩ = some (.slice (p 0) (m.row 0).length (c 0)) := (ht.sits HF2.out.1).cell 0
        have r1 : WG.cell? ⟨w.heap.size + 1, 1, none⟩ = some (.slice (p 1) (m.row 1).length (c 1)) := (ht.sits HF2.out.1).cell 1
        have r2 : WG.cell? ⟨w.heap.size + 1, 2, none⟩ = some (.slice (p 2) (m.row 2).length (c 2)) := (ht.sits HF2.out.1).cell 2
        have r3 : WG.cell? ⟨w.heap.size + 1, 3, none⟩ = some (.slice (p 3) (m.row 3).length (c 3)) := (ht.sits HF2.out.1).cell 3
        have r4 : WG.cell? ⟨w.heap.size + 1, 4, none⟩ = some (.int .i64 (m.n : Nat)) := (ht.sits HF2.out.1).cell 4
        have lr := (ht.sits HF2.out.1).lt
        exact ⟨.tuple #[memV p c m, .int .i64 4], by simp [results, Try.results32, go_sem, r0, r1, r2, r3, r4], by rw [HCAP.out]; exact ⟨p, c, rfl, ht.hold HF2.out.2.1, HF2.out.2.2.trans (ht.low.mono (by omega))⟩⟩
    · have j1 : ¬ ((k : Int) < (m.n : Int)) := by omega
      obtain rfl : k = m.n := by omega
      clear hlt hk
      have HCX := HW
      have HDX := HD
      have HCAP : Hid (capP m = (f, 0)) := Lib.hid (cap_yes HU.out)
      have b0 : wr.cell? ⟨w.heap.size + 1 + 1, 0, none⟩ = some (.slice (p' 0) (f.row 0).length (c' 0)) := (HCX.out.at4).cell 0
      have b1 : wr.cell? ⟨w.heap.size + 1 + 1, 1, none⟩ = some (.slice (p' 1) (f.row 1).length (c' 1)) := (HCX.out.at4).cell 1
      have b2 : wr.cell? ⟨w.heap.size + 1 + 1, 2, none⟩ = some (.slice (p' 2) (f.row 2).length (c' 2)) := (HCX.out.at4).cell 2
      have b3 : wr.cell? ⟨w.heap.size + 1 + 1, 3, none⟩ = some (.slice (p' 3) (f.row 3).length (c' 3)) := (HCX.out.at4).cell 3
      have b4 : wr.cell? ⟨w.heap.size + 1 + 1, 4, none⟩ = some (.int .i64 (f.n : Nat)) := (HCX.out.at4).cell 4
      have lb := (HCX.out.at4).lt
      go_wp2_with (refine wpList_store_row rfl 31 _ _ rfl (w.heap.size + 1) (memCells p' c' f) rfl rfl 31 _ HCX.out.at2 memSize rfl (mem_one _ _ _) ?_)
      have HF2 : Hid (Sits (wr.setRow (w.heap.size + 1) (memCells p' c' f)) (w.heap.size + 1) 31 (memCells p' c' f) ∧ Hold (wr.setRow (w.heap.size + 1) (memCells p' c' f)) p' c' f ∧ Below w.heap.size w (wr.setRow (w.heap.size + 1) (memCells p' c' f))) := Lib.hid
        ⟨setRow_heap wr _ _ _ _ _ HCX.out.at2, hold_over HCX.out.hold' HCX.out.at2 zero_plain _, row_low HCX.out.low (by omega) _⟩
      have HD3 := Lib.hid (HDX.out.row (g := w.heap.size + 1) (by omega) (memCells p' c' f))
      generalize wr.setRow (w.heap.size + 1) (memCells p' c' f) = WF at HF2 HD3 ⊢
      go_wp2_with fail
      refine leaves_ds (B := w.heap.size + 3) (ds) WF HD3.out fun WG ht => ?_
      have r0 : WG.cell? ⟨w.heap.size + 1, 0, none⟩ = some (.slice (p' 0) (f.row 0).length (c' 0)) := (ht.sits HF2.out.1).cell 0
      have r1 : WG.cell? ⟨w.heap.size + 1, 1, none⟩ = some (.slice (p' 1) (f.row 1).length (c' 1)) := (ht.sits HF2.out.1).cell 1
      have r2 : WG.cell? ⟨w.heap.size + 1, 2, none⟩ = some (.slice (p' 2) (f.row 2).length (c' 2)) := (ht.sits HF2.out.1).cell 2
      have r3 : WG.cell? ⟨w.heap.size + 1, 3, none⟩ = some (.slice (p' 3) (f.row 3).length (c' 3)) := (ht.sits HF2.out.1).cell 3
      have r4 : WG.cell? ⟨w.heap.size + 1, 4, none⟩ = some (.int .i64 (f.n : Nat)) := (ht.sits HF2.out.1).cell 4
      have lr := (ht.sits HF2.out.1).lt
      exact ⟨.tuple #[memV p' c' f, .int .i64 0], by simp [results, Try.results32, go_sem, r0, r1, r2, r3, r4], by rw [HCAP.out]; exact ⟨p', c', rfl, ht.hold HF2.out.2.1, HF2.out.2.2.trans (ht.low.mono (by omega))⟩⟩
end Go.Proofs.Ytokkcbhmmhmfmaa.Cap
