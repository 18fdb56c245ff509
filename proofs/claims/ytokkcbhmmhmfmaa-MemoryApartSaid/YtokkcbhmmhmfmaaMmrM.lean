/- Layer 11 (memory): last, At, Last. -/
import Derived.Test.YtokkcbhmmhmfmaaMmrL
namespace Go.Proofs.Ytokkcbhmmhmfmaa.Mmr
open Go.RowKit Go.Shelf Go.Proofs.Ytokkcbhmmhmfmaa.Mem Go.Proofs.Ytokkcbhmmhmfmaa.Flow
attribute [local go_sem] Oper.semAt_some

theorem wpListIn_store_row {F : Fence} {n : Nat} {P : Program} {ops : Array Oper} {rest : List Oper} {o : Oper} {a : Act} {w : World} {Q : Exit → Act → World → Prop} (hgd : o.guard = none) (ty : TypeId) (x y : Operand) (ho : o.op = .store ty x y)
    (g : Nat) (cells : Array Value) (hx : a.eval x = .pointer (some ⟨g, 0, none⟩)) (hy : a.eval y = .agg cells)
    (t : TypeId) (old : Array Value) (hg : w.heap[g]? = some (.cells old t (0, 0))) (hi : (P.info? ty).map (·.size) = some cells.size)
    (hold : old.size = cells.size) (h1 : cells.all (·.oneCell') = true)
    (h : wpListIn F n P ops Q rest (a.put o.dst undef) (w.setRow g cells)) : wpListIn F n P ops Q (o :: rest) a w := by
  refine wpListIn_plain hgd fun K hK' => ?_
  unfold Oper.wpIn
  refine ⟨by simp [Oper.about, ho], ?_⟩
  rw [Oper.semAt_plain F _ _ (by rw [ho]; intro c hc'; cases hc')]
  unfold execOp
  simp only [ho, hx, hy, Instr.storeAt, Instr.sureAddr, Sem.run_bind, Sem.run_pure, Result.andThen_ok, run_storeVar_row w g t ty old cells hg hi hold h1]
  exact hK' _ _ h
theorem itAt_below {w w' : World} {g q : Nat} {x : It} {B : Nat} (h : ItAt w g q x) (hb : Below B w w') (hg : g < B) : ItAt w' g q x := by
  have d : ∀ i, w'.cell? ⟨g, i, none⟩ = w.cell? ⟨g, i, none⟩ := fun i => hb.cell (p := ⟨g, i, none⟩) hg
  unfold ItAt at h ⊢
  simp only [d]
  exact h
theorem zero_one : zeroIt.all (·.oneCell') = true := by simp [Value.oneCell']
def itO : Option It → Value
  | some x => itV x
  | none => .agg zeroIt
/-- An item came back, or none. -/
def GivesI (r : Option It) (w : World) : Ending → World → Prop := Made (.returned (.tuple #[itO r, .bool r.isSome])) w
theorem find_rev {L : It → Prop} {l : List It} {ψ : It → Bool} {ini : List (Round L)} {last : Round L} {t : Nat} (h : (ini ++ [last]).map (·.1.2) = l.take t) (hi : ∀ x ∈ ini, ψ x.1.2 = false) (hl : ψ last.1.2 = true) : l.find? ψ = some last.1.2 := by
  rw [← List.take_append_drop t l, ← h, List.map_append, List.find?_append, List.find?_append]
  have e : (ini.map (·.1.2)).find? ψ = none := by
    rw [List.find?_eq_none]
    intro x hx
    obtain ⟨y, hy, rfl⟩ := List.mem_map.1 hx
    rw [hi y hy]; simp
  rw [e]
  simp [hl]
theorem find_none {L : It → Prop} {l : List It} {ψ : It → Bool} {ys : List (Round L)} (h : ys.map (·.1.2) = l) (hi : ∀ x ∈ ys, ψ x.1.2 = false) : l.find? ψ = none := by
  rw [← h, List.find?_eq_none]
  intro x hx
  obtain ⟨y, hy, rfl⟩ := List.mem_map.1 hx
  rw [hi y hy]; simp
theorem zeroAt {w : World} {g : Nat} (h : Sits w g 57 zeroIt) :
    w.cell? ⟨g, 0, none⟩ = some (.int .i64 0) ∧ w.cell? ⟨g, 1, none⟩ = some (.complex .f64 0 0) ∧ w.cell? ⟨g, 2, none⟩ = some (.int .u64 0) ∧
    w.cell? ⟨g, 3, none⟩ = some (.int .i64 0) ∧ w.cell? ⟨g, 4, none⟩ = some (.int .i64 0) ∧ w.cell? ⟨g, 5, none⟩ = some (.int .i64 0) ∧ w.cell? ⟨g, 6, none⟩ = some (.int .i64 0) ∧
    w.cell? ⟨g, 7, none⟩ = some (.int .i64 0) ∧ w.cell? ⟨g, 8, none⟩ = some (.int .i64 0) ∧ w.cell? ⟨g, 9, none⟩ = some (.int .i64 0) ∧ w.cell? ⟨g, 10, none⟩ = some (.int .i64 0) ∧
    w.cell? ⟨g, 11, none⟩ = some (.bool false) ∧ w.cell? ⟨g, 12, none⟩ = some (.int .i64 0) :=
  ⟨h.cell 0, h.cell 1, h.cell 2, h.cell 3, h.cell 4, h.cell 5, h.cell 6, h.cell 7, h.cell 8, h.cell 9, h.cell 10, h.cell 11, h.cell 12⟩
structure LastAt (w : World) (p : Nat → Option Addr) (c : Nat → Nat) (m : Mm) (fv : Value) (z : Array Value) (b : Bool) (W : World) : Prop where
  at3 : Sits W w.heap.size 31 (memCells p c m)
  at5 : Sits W (w.heap.size + 1) 87 #[fv]
  at6 : Sits W (w.heap.size + 1 + 1) 57 z
  at7 : Sits W (w.heap.size + 1 + 1 + 1) 4 #[.bool b]
  low : Below w.heap.size w W
section
variable {w W W' : World} {p : Nat → Option Addr} {c : Nat → Nat} {m : Mm} {fv : Value} {z : Array Value} {b : Bool}
theorem LastAt.grown (h : LastAt w p c m fv z b W) (hb : Below W.heap.size W W') : LastAt w p c m fv z b W' :=
  ⟨h.at3.below hb h.at3.lt, h.at5.below hb h.at5.lt, h.at6.below hb h.at6.lt, h.at7.below hb h.at7.lt, h.low.trans (hb.mono h.low.size)⟩
theorem LastAt.put6 (h : LastAt w p c m fv z b W) (z' : Array Value) : LastAt w p c m fv z' b (W.setRow (w.heap.size + 1 + 1) z') :=
  ⟨(setRow_other W _ _ _ (by omega)).trans h.at3, (setRow_other W _ _ _ (by omega)).trans h.at5, setRow_heap W _ _ _ _ _ h.at6, (setRow_other W _ _ _ (by omega)).trans h.at7, row_low h.low (by omega) _⟩
theorem LastAt.put7 (h : LastAt w p c m fv z b W) (b' : Bool) : LastAt w p c m fv z b' (W.setCell ⟨w.heap.size + 1 + 1 + 1, 0, none⟩ (.bool b')) :=
  ⟨h.at3.far (show w.heap.size ≠ w.heap.size + 1 + 1 + 1 by omega) _, h.at5.far (show w.heap.size + 1 ≠ w.heap.size + 1 + 1 + 1 by omega) _, h.at6.far (show w.heap.size + 1 + 1 ≠ w.heap.size + 1 + 1 + 1 by omega) _, h.at7.put 0 _, h.low.setCell (p := ⟨w.heap.size + 1 + 1 + 1, 0, none⟩) (by show w.heap.size ≤ w.heap.size + 1 + 1 + 1; omega) _⟩
theorem sits_from {β : Type} (B g : Nat) (t : TypeId) (f : β → Array Value) : OwnFrom B (fun s W => Sits W g t (f s)) := fun s W W' row hs hg hr =>
  hs.grown hg (fun e => by
    obtain ⟨_, o, ho, hc⟩ := hr g e
    unfold Sits at hs
    rw [hs] at ho
    injection ho with ho
    subst ho
    simp [Obj.isCells] at hc)
theorem lastAt_from {β : Type} (B : Nat) (hB : w.heap.size ≤ B) (z : β → Array Value) (b : Bool) : OwnFrom B (fun s W => LastAt w p c m fv (z s) b W) := fun s W W' row hs hg hr =>
  ⟨sits_from B _ _ (fun _ : Unit => memCells p c m) () W W' row hs.at3 hg hr, sits_from B _ _ (fun _ : Unit => #[fv]) () W W' row hs.at5 hg hr, sits_from B _ _ z s W W' row hs.at6 hg hr, sits_from B _ _ (fun _ : Unit => #[Value.bool b]) () W W' row hs.at7 hg hr,
    hs.low.grown hg hs.low.size (fun k e => by have := (hr k e).1; omega)⟩
end
theorem LastAt.taken {w W : World} {p : Nat → Option Addr} {c : Nat → Nat} {m : Mm} {fv : Value} {z : Array Value} {b : Bool} (h : LastAt w p c m fv z b W) {D : Nat} (hD : w.heap.size + 4 ≤ D) (o : Obj) : LastAt w p c m fv z b (W.putObj D o) :=
  ⟨(World.putObj_heap_other (by omega)).trans h.at3, (World.putObj_heap_other (by omega)).trans h.at5, (World.putObj_heap_other (by omega)).trans h.at6, (World.putObj_heap_other (by omega)).trans h.at7,
    h.low.grown (grownBy_putObj' W D o) h.low.size (fun k e => by cases e; omega)⟩
theorem keeps_below {B : Nat} {W W' : World} (h : Below W.heap.size W W') : KeepsFrom B W W' := ⟨h.size, fun k o _ hk _ => (h.block k (by
  rcases Nat.lt_or_ge k W.heap.size with hlt | hge
  · exact hlt
  · rw [Array.getElem?_eq_none hge] at hk; cases hk)).trans hk⟩
theorem keeps_cells {B g : Nat} {W : World} {t : TypeId} {cs : Array Value} (h : Sits W g t cs) (cs' : Array Value) : KeepsFrom B W (W.setRow g cs') := ⟨by simp [World.setRow], fun k o _ hk ho => by
  by_cases e : k = g
  · subst e; unfold Sits at h; rw [h] at hk; injection hk with hk; subst hk; simp [Obj.isCells] at ho
  · exact (setRow_other W _ _ _ e).trans hk⟩
set_option maxRecDepth 100000 in
set_option maxHeartbeats 2000000 in
theorem last_any {F : FuncId} {fr cs : Array Value} {φ : It → Bool} {J : World → Prop} {L : It → Prop} (S : TellsI F fr cs φ J L) (p : Nat → Option Addr) (c : Nat → Nat) (m : Mm) (hO : OkM m) (hL : ∀ i x, x ∈ m.row i → L x) (loc : Int) (w : World) (hH : Hold w p c m) (hJ : J w) :
    Calls Try.prog 55 #[memV p c m, .int .i64 loc, .func (.func F) fr cs] w (GivesI (lastF m loc φ) w) := by
  have en := S.enters
  unfold EntersI at en
  have HS := Lib.hid S
  have HH := Lib.hid hH
  have HO := Lib.hid hO
  have HJ := Lib.hid hJ
  have HL := Lib.hid hL
  have H0 : Hid (LastAt w p c m (.func (.func F) fr cs) zeroIt false ((((w.alloc (.cells (memCells p c m) 31)).alloc (.cells #[.func (.func F) fr cs] 87)).alloc (.cells zeroIt 57)).alloc (.cells #[.bool false] 4))) := Lib.hid
    ⟨(((Sits.new _ _ _).alloc _).alloc _).alloc _, ((Sits.made (by simp) _ _).alloc _).alloc _, (Sits.made (by simp) _ _).alloc _, Sits.made (by simp) _ _, four_low _ _ _ _ _⟩
  clear S hH hO hJ hL
  refine (callsIn_wide (n := 5)).1 ?_
  refine callsIn_of_wp_marks Try.func55 rfl trivial ?_ rfl
  simp only [Try.ntmps55, List.size_toArray, List.length_cons, List.length_nil, Nat.reduceAdd, Nat.reduceSub, Array.replicate_succ, Array.replicate_zero, List.push_toArray, List.append_toArray, List.nil_append, List.cons_append]
  gi_wp2_with fail
  refine ⟨trivial, ?_⟩
  generalize ((((w.alloc (.cells (memCells p c m) 31)).alloc (.cells #[.func (.func F) fr cs] 87)).alloc (.cells zeroIt 57)).alloc (.cells #[.bool false] 4)) = w0 at H0 ⊢
  refine (callsIn_wide.2 (has_any p c m loc w0)).mono ?_
  rintro e w1 ⟨rfl, hb⟩
  have H1 := Lib.hid (H0.out.grown hb)
  clear hb H0
  cases hh : hasF m loc
  · have HR : Hid (lastF m loc φ = none) := Lib.hid (by unfold lastF; rw [hh]; rfl)
    clear hh
    gi_wp2_with (refine wpListIn_store_row rfl 57 _ _ rfl (w.heap.size + 1 + 1) zeroIt rfl rfl 57 _ H1.out.at6 itSize rfl zero_one ?_; have H2 := Lib.hid (H1.out.put6 zeroIt); generalize w1.setRow (w.heap.size + 1 + 1) zeroIt = w2 at H2 ⊢; have c7 : w2.cell? ⟨w.heap.size + 1 + 1 + 1, 0, none⟩ = some (.bool false) := H2.out.at7.cell 0; have f7 := H2.out.at7.free 0)
    have H3 := Lib.hid (H2.out.put7 false)
    generalize w2.setCell ⟨w.heap.size + 1 + 1 + 1, 0, none⟩ (.bool false) = w3 at H3 ⊢
    clear c7 f7
    obtain ⟨c0, c1, c2, c3, c4, c5, c6, c7, c8, c9, c10, c11, c12⟩ := zeroAt H3.out.at6
    have r7 : w3.cell? ⟨w.heap.size + 1 + 1 + 1, 0, none⟩ = some (.bool false) := H3.out.at7.cell 0
    exact ⟨.tuple #[.agg zeroIt, .bool false], by simp [results, Try.results55, go_sem, c0, c1, c2, c3, c4, c5, c6, c7, c8, c9, c10, c11, c12, r7], by rw [HR.out]; exact ⟨rfl, H3.out.low⟩⟩
  obtain ⟨hl0, hl1⟩ := has_iff.1 hh
  obtain ⟨k, rfl⟩ : ∃ k : Nat, loc = (k : Nat) := ⟨loc.toNat, by omega⟩
  have hkn : k < m.n := by omega
  have hk4 : k < 4 := by have := HO.out.most; omega
  have HR : Hid (lastF m k φ = (m.row k).reverse.find? fun x => !x.res && φ x) := Lib.hid (by unfold lastF; rw [hh, if_pos rfl]; rfl)
  have bk := mem_at H1.out.at3 k hk4
  have lb := H1.out.at3.lt
  have HL1 := Lib.hid (HO.out.each k hkn)
  have hI := (HH.out.row k hk4).below H1.out.low
  obtain ⟨g, o, hp⟩ : ∃ g o, p k = some ⟨g, o, none⟩ := by
    obtain ⟨g, o, hp, _, _⟩ := hI.at (List.getElem?_eq_getElem (by have := HL1.out.one; omega : 0 < (m.row k).length))
    exact ⟨g, o, hp⟩
  rw [hp] at bk hI
  have HI := Lib.hid hI
  have j4 : (k : Int) < 4 := by omega
  have j0 : (0 : Int) ≤ (k : Int) := by omega
  clear hh hl0 hl1 hkn hk4 hI hp
  gi_wp2_with fail
  refine ⟨trivial, ?_⟩
  refine (callsIn_wide.2 (back_any _ _ _ _)).mono ?_
  rintro e w2 ⟨rfl, rfl⟩
  gi_wp2
  have HB2 := Lib.hid (H1.out.grown (one_low w1 (.cells #[.slice (some ⟨g, o, none⟩) (m.row k).length (c k)] 28)))
  have HSB := Lib.hid (Sits.new w1 28 #[.slice (some ⟨g, o, none⟩) (m.row k).length (c k)])
  have HI2 := Lib.hid (HI.out.below (one_low w1 (.cells #[.slice (some ⟨g, o, none⟩) (m.row k).length (c k)] 28)))
  have hsz : w.heap.size + 4 < (w1.alloc (.cells #[.slice (some ⟨g, o, none⟩) (m.row k).length (c k)] 28)).heap.size := by have := H1.out.at7.lt; simp; omega
  have HSZ := Lib.hid hsz
  generalize w1.heap.size = sb at HSB ⊢
  generalize w1.alloc (.cells #[.slice (some ⟨g, o, none⟩) (m.row k).length (c k)] 28) = W0 at HB2 HSB HI2 HSZ ⊢
  clear bk lb hsz
  have lgb : g < W0.heap.size := by
    obtain ⟨g', o', e', hg', _⟩ := HI2.out.at (List.getElem?_eq_getElem (by have := HL1.out.one; omega : 0 < (m.row k).length))
    injection e' with e'; injection e' with e1 e2; subst e1; exact hg'
  refine wpIn_rangeFunc_ownH (α := Round L) rfl (by decide) (gf := 79) (lb := #[.pointer (some ⟨sb, 0, none⟩)]) rfl trivial back1_enters
    (encs := encI) (Kp := Below W0.heap.size) (S := fun ys => ys.map (·.1.2) = (m.row k).reverse) (Sp := fun pre => ∃ t, t ≤ (m.row k).length ∧ pre.map (·.1.2) = (m.row k).reverse.take t) (N := (m.row k).length) (w0 := W0)
    (fun l Jr Jx W hW _ _ hY h0 => back1_in Fence.wide 4 trivial rfl (by decide) l sb W0.heap.size g o (c k) (m.row k) (by have := HL1.out.few; omega) lgb HSB.out.lt (HL.out k) Jr Jx hY W
      ((hW.cell (p := ⟨sb, 0, none⟩) HSB.out.lt).trans (HSB.out.cell 0)) (fun n x hx => by
        obtain ⟨g', o', e', hg', hc⟩ := HI2.out.there hx
        injection e' with e'; injection e' with e1 e2; subst e1 e2
        exact itAt_below hc hW hg') h0)
    belowK_t (belowK_b (Nat.le_refl _)) (Below.refl _ _) (fun _ => rfl)
    (fun pre W => (∀ x ∈ pre, (!x.1.2.res && φ x.1.2) = false) ∧ LastAt w p c m (.func (.func F) fr cs) zeroIt false W ∧ W0.heap.size ≤ W.heap.size)
    (fun q pre W => q = .ret ∧ ∃ ini last, pre = ini ++ [last] ∧ (∀ x ∈ ini, (!x.1.2.res && φ x.1.2) = false) ∧ (!last.1.2.res && φ last.1.2) = true ∧ LastAt w p c m (.func (.func F) fr cs) (itCells last.1.2) true W)
    (fun s W W' row hs hg hr => ⟨hs.1, lastAt_from W0.heap.size HB2.out.low.size (fun _ : Unit => zeroIt) false () W W' row hs.2.1 hg hr, Nat.le_trans hs.2.2 hg.size⟩)
    (fun q s W W' row hs hg hr => by obtain ⟨hq, ini, last, e1, e2, e3, e4⟩ := hs; exact ⟨hq, ini, last, e1, e2, e3, lastAt_from W0.heap.size HB2.out.low.size (fun _ : Unit => itCells last.1.2) true () W W' row e4 hg hr⟩)
    ⟨by simp, HB2.out, Nat.le_refl _⟩
    (fun x a' W => ∃ Bx, w.heap.size + 4 ≤ Bx ∧ Sits W Bx 57 (itCells x.1.2) ∧ a' = { tmps := #[memV p c m, .int .i64 (k : Nat), .func (.func F) fr cs, .pointer (some ⟨w.heap.size, 0, none⟩), undef, .pointer (some ⟨w.heap.size + 1, 0, none⟩), .pointer (some ⟨w.heap.size + 1 + 1, 0, none⟩), .pointer (some ⟨w.heap.size + 1 + 1 + 1, 0, none⟩), undef, .pointer (some ⟨Bx, 0, none⟩), .agg (memCells p c m), .int .i64 (k : Nat), .bool true, .bool false, undef, .int .i64 (k : Nat), .pointer (some ⟨w.heap.size, 0, none⟩), .pointer (some ⟨w.heap.size, k, none⟩), .slice (some ⟨g, o, none⟩) (m.row k).length (c k), .func (.func 79) #[] #[.pointer (some ⟨sb, 0, none⟩)], .int .i64 x.1.1, itV x.1.2, undef, undef, undef, undef, undef, undef, undef, undef, undef, undef], defers := [] })
    (fun x a' _ X Y row hs hg hr => by obtain ⟨Bx, h1, h2, h3⟩ := hs; exact ⟨Bx, h1, sits_from W0.heap.size Bx _ (fun _ : Unit => itCells x.1.2) () X Y row h2 hg hr, h3⟩)
    ?assign ?body ?done ?stop
  case assign =>
    rintro l pre x W K ⟨hno, hLA, hsz⟩ hK
    gi_wp2
    exact hK _ _ (keeps_below (one_low _ _)) ((Below.refl _ W).alloc hsz _) ⟨hno, hLA.grown (one_low _ _), by simp; omega⟩ ⟨W.heap.size, by have := hLA.at7.lt; omega, Sits.new _ _ _, rfl⟩
  case body =>
    rintro l pre x a' W hl ⟨r, hr⟩ ⟨hno, hLA, hsz⟩ ⟨Bx, hBx, hSx, rfl⟩ hlt
    obtain ⟨⟨q, y⟩, hy⟩ := x
    obtain ⟨yl, ya, yb, yn, yv, yr, yo⟩ := y
    simp only at hSx ⊢
    obtain ⟨c0, c1, c2, c3, c4, c5, c6, c7, c8, c9, c10, c11, c12⟩ := itAt_sits hSx
    dsimp only at c0 c1 c2 c3 c4 c5 c6 c7 c8 c9 c10 c11 c12
    have lx := hSx.lt
    have b5 : W.cell? ⟨w.heap.size + 1, 0, none⟩ = some (.func (.func F) fr cs) := hLA.at5.cell 0
    have l5 := hLA.at5.lt
    have HNO := Lib.hid hno
    have HLA := Lib.hid hLA
    have HSX := Lib.hid hSx
    have HBX := Lib.hid hBx
    have HS0 := Lib.hid hsz
    have HR2 := Lib.hid hr
    clear hno hLA hSx hBx hsz hr
    cases yr
    · have HC := Lib.hid (HS.out.call ⟨yl, ya, yb, yn, yv, false, yo⟩ W hy (HS.out.keep _ _ HJ.out HLA.out.low))
      gi_wp2_with fail
      refine ⟨trivial, ?_⟩
      refine (CallsIn.inRound l (callsIn_wide.2 HC.out)).mono ?_
      rintro e W2 ⟨rfl, hb⟩
      have HLA2 := Lib.hid (HLA.out.grown hb)
      have HSX2 := Lib.hid (HSX.out.below hb HSX.out.lt)
      have HB2 := Lib.hid hb
      clear hb HC c0 c1 c2 c3 c4 c5 c6 c7 c8 c9 c10 c11 c12 lx b5 l5
      cases hφ : φ ⟨yl, ya, yb, yn, yv, false, yo⟩
      · have HF : Hid (∀ x ∈ pre ++ [(⟨(q, ⟨yl, ya, yb, yn, yv, false, yo⟩), hy⟩ : Round L)], (!x.1.2.res && φ x.1.2) = false) := Lib.hid (fun x hx => by
          rcases List.mem_append.1 hx with hx | hx
          · exact HNO.out x hx
          · rw [List.mem_singleton] at hx; subst hx; simp [hφ])
        gi_wp2
        exact ⟨keeps_below HB2.out, HB2.out.mono HS0.out, HF.out, HLA2.out, Nat.le_trans HS0.out HB2.out.size⟩
      · have HF : Hid ((!(⟨yl, ya, yb, yn, yv, false, yo⟩ : It).res && φ ⟨yl, ya, yb, yn, yv, false, yo⟩) = true) := Lib.hid (by simp [hφ])
        clear hφ
        obtain ⟨c0, c1, c2, c3, c4, c5, c6, c7, c8, c9, c10, c11, c12⟩ := itAt_sits HSX2.out
        dsimp only at c0 c1 c2 c3 c4 c5 c6 c7 c8 c9 c10 c11 c12
        have lx := HSX2.out.lt
        gi_wp2_with (refine wpListIn_store_row rfl 57 _ _ rfl (w.heap.size + 1 + 1) (itCells ⟨yl, ya, yb, yn, yv, false, yo⟩) rfl rfl 57 _ HLA2.out.at6 itSize rfl (it_one _) ?_; have HLA3 := Lib.hid (HLA2.out.put6 (itCells ⟨yl, ya, yb, yn, yv, false, yo⟩)); have HK3 := Lib.hid ((keeps_below (B := W0.heap.size) HB2.out).trans (keeps_cells HLA2.out.at6 (itCells ⟨yl, ya, yb, yn, yv, false, yo⟩))); generalize W2.setRow (w.heap.size + 1 + 1) (itCells ⟨yl, ya, yb, yn, yv, false, yo⟩) = W3 at HLA3 HK3 ⊢; clear c0 c1 c2 c3 c4 c5 c6 c7 c8 c9 c10 c11 c12 lx; have b7 : W3.cell? ⟨w.heap.size + 1 + 1 + 1, 0, none⟩ = some (.bool false) := HLA3.out.at7.cell 0; have f7 := HLA3.out.at7.free 0; have l7 := HLA3.out.at7.lt)
        exact ⟨HK3.out.trans ((KeepsOthers.setCell _ _ _).from _), rfl, pre, _, rfl, HNO.out, HF.out, HLA3.out.put7 true⟩
    · have HF : Hid (∀ x ∈ pre ++ [(⟨(q, ⟨yl, ya, yb, yn, yv, true, yo⟩), hy⟩ : Round L)], (!x.1.2.res && φ x.1.2) = false) := Lib.hid (fun x hx => by
        rcases List.mem_append.1 hx with hx | hx
        · exact HNO.out x hx
        · rw [List.mem_singleton] at hx; subst hx; rfl)
      gi_wp2_with fail
      refine ⟨fun _ h => (by cases h), ?_⟩
      gi_wp2
      exact ⟨KeepsFrom.refl _ _, Below.refl _ _, HF.out, HLA.out, HS0.out⟩
  case done =>
    rintro D ys W hD hS ⟨hno, hLA, hsz⟩ hK
    have HRN := Lib.hid (HR.out.trans (find_none hS hno))
    have HLA := Lib.hid hLA
    have HD := Lib.hid (show w.heap.size + 4 ≤ D by have := HSZ.out; omega)
    have HK := Lib.hid hK
    clear hno hLA hsz hS hK hD
    gi_wp2_with (refine wpListIn_store_row rfl 57 _ _ rfl (w.heap.size + 1 + 1) zeroIt rfl rfl 57 _ HLA.out.at6 itSize rfl zero_one ?_; have H2 := Lib.hid (HLA.out.put6 zeroIt); have HK2 := Lib.hid ((setRow_other W (w.heap.size + 1 + 1) D zeroIt (by have := HD.out; omega)).trans HK.out); generalize W.setRow (w.heap.size + 1 + 1) zeroIt = w2 at H2 HK2 ⊢; have c7 : w2.cell? ⟨w.heap.size + 1 + 1 + 1, 0, none⟩ = some (.bool false) := H2.out.at7.cell 0; have f7 := H2.out.at7.free 0)
    have H3 := Lib.hid (H2.out.put7 false)
    have HK3 := Lib.hid ((Below.heap_setCell w2 ⟨w.heap.size + 1 + 1 + 1, 0, none⟩ (.bool false) D (by show D ≠ w.heap.size + 1 + 1 + 1; have := HD.out; omega)).trans HK2.out)
    generalize w2.setCell ⟨w.heap.size + 1 + 1 + 1, 0, none⟩ (.bool false) = w3 at H3 HK3 ⊢
    refine ⟨by simp, .inl ⟨_, _, rfl, run_takeDeferred HK3.out, ?_⟩⟩
    have H4 := H3.out.taken HD.out (.deferred none)
    clear c7 f7
    obtain ⟨c0, c1, c2, c3, c4, c5, c6, c7, c8, c9, c10, c11, c12⟩ := zeroAt H4.at6
    have r7 : (w3.putObj D (.deferred none)).cell? ⟨w.heap.size + 1 + 1 + 1, 0, none⟩ = some (.bool false) := H4.at7.cell 0
    exact ⟨.tuple #[.agg zeroIt, .bool false], by simp [results, Try.results55, go_sem, c0, c1, c2, c3, c4, c5, c6, c7, c8, c9, c10, c11, c12, r7], by rw [HRN.out]; exact ⟨rfl, H4.low⟩⟩
  case stop =>
    rintro D q pre W hD ⟨t, ht, hpre⟩ ⟨rfl, ini, last, rfl, hini, hlast, hLA⟩ hK
    have HRN := Lib.hid (HR.out.trans (find_rev hpre hini hlast))
    have HD := Lib.hid (show w.heap.size + 4 ≤ D by have := HSZ.out; omega)
    have H4 := hLA.taken HD.out (.deferred none)
    clear hini hlast hpre ht hD hLA
    gi_wp2
    refine ⟨by simp, .inl ⟨_, _, rfl, run_takeDeferred hK, ?_⟩⟩
    obtain ⟨c0, c1, c2, c3, c4, c5, c6, c7, c8, c9, c10, c11, c12⟩ := itAt_sits H4.at6
    have r7 : (W.putObj D (.deferred none)).cell? ⟨w.heap.size + 1 + 1 + 1, 0, none⟩ = some (.bool true) := H4.at7.cell 0
    exact ⟨.tuple #[itV last.1.2, .bool true], by simp [results, Try.results55, go_sem, c0, c1, c2, c3, c4, c5, c6, c7, c8, c9, c10, c11, c12, r7], by rw [HRN.out]; exact ⟨rfl, H4.low⟩⟩
end Go.Proofs.Ytokkcbhmmhmfmaa.Mmr
