/- Layer 11 (memory): where the walk of MemoryPlays stands: two boxes, and two rows of earlier memories. -/
import Derived.Test.YtokkcbhmmhmfmaaMmrYK
import Derived.Test.YtokkcbhmmhmfmaaMmrYI
namespace Go.Proofs.Ytokkcbhmmhmfmaa.Mmr
open Go.RowKit Go.Proofs.Ytokkcbhmmhmfmaa.Mem Go.Proofs.Ytokkcbhmmhmfmaa.Flow

/-- A memory and the document's, where they lie. -/
structure Sn where
  p : Nat → Option Addr
  c : Nat → Nat
  m : Mm
  q : Option Addr
  d : Nat
  dm : Dm
abbrev memL (s : Sn) : List Value := (memCells s.p s.c s.m).toList
abbrev dmL (s : Sn) : List Value := (dmCells s.q s.d s.dm).toList
theorem memL_len (s : Sn) : (memL s).length = 5 := rfl
theorem dmL_len (s : Sn) : (dmL s).length = 2 := rfl
theorem mem_i64 (p : Nat → Option Addr) (c : Nat → Nat) (m : Mm) : ∀ u ∈ (memCells p c m).toList, ∀ k z, u = .int k z → k = .i64 := by
  intro u hu k z e
  simp only [List.mem_cons, List.not_mem_nil, or_false] at hu
  rcases hu with rfl | rfl | rfl | rfl | rfl <;> cases e
  rfl
theorem memL_dull (s : Sn) : ∀ u ∈ memL s, dull u := fun u hu => ⟨mem_plain s.p s.c s.m u hu, mem_i64 s.p s.c s.m u hu⟩
theorem dmL_dull (s : Sn) : ∀ u ∈ dmL s, dull u := fun u hu => ⟨fun k x y e => (by
  have hu : u ∈ [Value.int .i64 (s.dm.n : Nat), .slice s.q s.dm.l.length s.d] := hu
  simp only [List.mem_cons, List.not_mem_nil, or_false] at hu
  rcases hu with rfl | rfl <;> cases e), dm_plain s.q s.d s.dm u hu⟩
theorem memL_one (s : Sn) : ∀ u ∈ memL s, u.oneCell' = true := fun u hu => List.all_eq_true.1 (by simpa using mem_one s.p s.c s.m) u hu
theorem dmL_one (s : Sn) : ∀ u ∈ dmL s, u.oneCell' = true := fun u hu => List.all_eq_true.1 (by simpa using dm_one s.q s.d s.dm) u hu
abbrev zeroMm : Array Value := #[.slice none 0 0, .slice none 0 0, .slice none 0 0, .slice none 0 0, .int .i64 0]
theorem rowMm : RowT Try.prog 41 31 5 104 := rowT_of (z := .agg zeroMm) Try.underlying41 (by kernel_rfl) rfl (by decide)
theorem rowDm : RowT Try.prog 42 37 2 32 := rowT_of (z := .agg zeroDm) Try.underlying42 (by kernel_rfl) rfl (by decide)
theorem zeroMm_info : (Try.prog.info? 31).map (·.zero) = some (some (.agg zeroMm)) := by kernel_rfl
theorem zeroDm_info : (Try.prog.info? 37).map (·.zero) = some (some (.agg zeroDm)) := by kernel_rfl
theorem zeroMm_dull : ∀ i z, Try.prog.info? 31 = some i → i.zero = some z → ∀ u ∈ z.cells.toList, dull u := fun i z hi hz u hu => by
  have e := zeroMm_info
  rw [hi] at e
  simp only [Option.map_some, Option.some.injEq, hz] at e
  subst e
  have hu : u ∈ [Value.slice none 0 0, .slice none 0 0, .slice none 0 0, .slice none 0 0, .int .i64 0] := hu
  simp only [List.mem_cons, List.not_mem_nil, or_false] at hu
  rcases hu with rfl | rfl | rfl | rfl | rfl <;> exact ⟨fun k x y e => (by cases e), fun k z e => (by cases e <;> rfl)⟩
theorem zeroDm_dull : ∀ i z, Try.prog.info? 37 = some i → i.zero = some z → ∀ u ∈ z.cells.toList, dull u := fun i z hi hz u hu => by
  have e := zeroDm_info
  rw [hi] at e
  simp only [Option.map_some, Option.some.injEq, hz] at e
  subst e
  have hu : u ∈ [Value.int .i64 0, .slice none 0 0] := hu
  simp only [List.mem_cons, List.not_mem_nil, or_false] at hu
  rcases hu with rfl | rfl <;> exact ⟨fun k x y e => (by cases e), fun k z e => (by cases e <;> rfl)⟩
theorem wpList_append_dull {P : Program} {t e : TypeId} {size bytes : Nat} (T : RowT P t e size bytes) (hz : ∀ i z, P.info? e = some i → i.zero = some z → ∀ u ∈ z.cells.toList, dull u) {ops : Array Oper} {rest : List Oper} {o : Oper} {a : Act} {Q : Exit → Act → World → Prop} (hgd : o.guard = none) (s x : Operand)
    (ho : o.op = .call { callee := .builtin .append, args := #[s, x], argTypes := #[t, t] }) {B : Nat} {w : World} {r : Option Addr} {n d : Nat} {xs : List Value} (hs : a.eval s = .slice r n d) (h : Cut2 e size B w r n d xs) (hD : Dull w r) (hB : B ≤ w.heap.size)
    (g c : Nat) (ys : List Value) (hx : a.eval x = .slice (some ⟨g, 0, none⟩) 1 c) (hy : ys.length = 1 * size) (hq : Lay w (some ⟨g, 0, none⟩) ys) (h1 : ∀ u ∈ ys, u.oneCell' = true) (hyd : ∀ u ∈ ys, dull u) (h63 : n + 1 ≤ maxLen) (hb : (n + 1) * bytes ≤ 140737488355328)
    (hk : ∀ r' d' w', w.grownBy w' (Value.slice r n d).ownBlock → Below B w w' → Cut2 e size B w' r' (n + 1) d' (xs ++ ys) → Dull w' r' → wpList P ops Q rest (a.put o.dst (.slice r' (n + 1) d')) w') : wpList P ops Q (o :: rest) a w :=
  wpList_plain hgd fun _ hK => by
    obtain ⟨r', d', w', hr, ⟨hgr, _⟩, hbl, hc⟩ := run_append_cut2 T o.type h hB (some ⟨g, 0, none⟩) 1 c ys hy hq h1 h63 hb
    have hd := append_dull T hz o.type h hD g c ys hy hq h1 hyd h63 hb hr
    unfold Oper.wp execOp
    simp only [ho, resolve, invoke, builtin, Sem.run_bind, Sem.run_pure, Result.andThen_ok, List.map_toArray, List.map_cons, List.map_nil, hs, hx, hr]
    exact hK _ _ (hk r' d' w' hgr hbl hc hd)

structure Keep (W : World) (s : Sn) : Prop where
  hold : Hold W s.p s.c s.m
  holdD : HoldD W s.q s.d s.dm
theorem Keep.below {W W' : World} {s : Sn} (h : Keep W s) (hb : Below W.heap.size W W') : Keep W' s := ⟨h.hold.below hb, h.holdD.below hb⟩
theorem Keep.grown {W W' : World} {s : Sn} {r : Option Addr} {n d : Nat} (h : Keep W s) (hd : Dull W r) (hg : W.grownBy W' (Value.slice r n d).ownBlock) : Keep W' s :=
  ⟨⟨fun i hi => its_grown (h.hold.row i hi) hd hg, h.hold.cap⟩, rtsd_grown h.holdD.row hd hg, h.holdD.cap⟩
theorem Keep.over {W : World} {s : Sn} {g : Nat} {t : TypeId} {cs : Array Value} (h : Keep W s) (hs : Sits W g t cs) (h1 : ∀ u ∈ cs.toList, dull u) (cs' : Array Value) : Keep (W.setRow g cs') s :=
  ⟨hold_over h.hold hs (fun u hu => (h1 u hu).1) cs', rts_row h.holdD.row (rts_far h.holdD.row hs (fun u hu => (h1 u hu).2)) cs', h.holdD.cap⟩
theorem Cut2.row {e : TypeId} {size B : Nat} {w : World} {r : Option Addr} {n d : Nat} {xs : List Value} (h : Cut2 e size B w r n d xs) {g : Nat} (hg : g < B) (cs : Array Value) : Cut2 e size B (w.setRow g cs) r n d xs :=
  cut2_of ⟨h.own.1, h.own.2.imp id fun ⟨g', cap, cur, e1, e2, e3, e4⟩ => ⟨g', cap, cur, e1, e2, (setRow_other w g g' cs (by omega)).trans e3, e4⟩⟩
theorem Dull.row {w : World} {r : Option Addr} (h : Dull w r) {g : Nat} (hf : ∀ g' o s, r = some ⟨g', o, s⟩ → g' ≠ g) (cs : Array Value) : Dull (w.setRow g cs) r := fun g' o s e => by
  obtain ⟨cur, t, hc, hu⟩ := h g' o s e
  exact ⟨cur, t, (setRow_other w g g' cs (hf g' o s e)).trans hc, hu⟩
/-- Rows of unlike elements lie in unlike blocks. -/
theorem cut_unlike {e1 e2 : TypeId} (hne : e1 ≠ e2) {s1 s2 B1 B2 : Nat} {w : World} {r1 r2 : Option Addr} {n1 n2 d1 d2 : Nat} {x1 x2 : List Value} (h1 : Cut2 e1 s1 B1 w r1 n1 d1 x1) (h2 : Cut2 e2 s2 B2 w r2 n2 d2 x2) :
    ∀ g o s, r1 = some ⟨g, o, s⟩ → (Value.slice r2 n2 d2).ownBlock ≠ some g := fun g o s e hc => by
  obtain ⟨o', s', e'⟩ := own_is hc
  subst e e'
  obtain ⟨_, h | ⟨ga, _, _, ea, _, ga', _⟩⟩ := h1.own
  · cases h.1
  obtain ⟨_, h | ⟨gb, _, _, eb, _, gb', _⟩⟩ := h2.own
  · cases h.1
  injection ea with ea; injection ea with ea; injection ea with ea
  injection eb with eb; injection eb with eb; injection eb with eb
  subst ea eb
  rw [ga'] at gb'
  injection gb' with gb'; injection gb' with _ gb' _
  exact hne gb'
theorem Cut2.aside {e : TypeId} {size B : Nat} {w w' : World} {r : Option Addr} {n d : Nat} {xs : List Value} {row : Option Nat} (h : Cut2 e size B w r n d xs) (hg : w.grownBy w' row) (hf : ∀ g o s, r = some ⟨g, o, s⟩ → row ≠ some g) : Cut2 e size B w' r n d xs :=
  cut2_of (h.own.kept hg (by
    cases r with
    | none => exact .inl rfl
    | some a => obtain ⟨g, o, s⟩ := a; exact .inr fun e' => hf g o s rfl (e'.symm.trans rfl)))

structure PlAt (w : World) (g11 g13 B : Nat) (s : Sn) (SA SW : List Sn) (r15 : Option Addr) (d15 : Nat) (r16 : Option Addr) (d16 : Nat) (W : World) : Prop where
  at11 : Sits W g11 31 (memCells s.p s.c s.m)
  at13 : Sits W g13 37 (dmCells s.q s.d s.dm)
  keep : Keep W s
  all : Cut2 31 5 B W r15 SA.length d15 (cellsOf memL SA)
  dull15 : Dull W r15
  was : Cut2 37 2 B W r16 SW.length d16 (cellsOf dmL SW)
  dull16 : Dull W r16
  oldA : ∀ t ∈ SA, Keep W t
  oldW : ∀ t ∈ SW, Keep W t
  low : Below w.heap.size w W
  ge11 : w.heap.size ≤ g11
  ge13 : w.heap.size ≤ g13
  lt11 : g11 < B
  lt13 : g13 < B
  leB : B ≤ W.heap.size
section
variable {w W W' : World} {g11 g13 B : Nat} {s : Sn} {SA SW : List Sn} {r15 r16 r : Option Addr} {d15 d16 d : Nat}
theorem PlAt.grown (h : PlAt w g11 g13 B s SA SW r15 d15 r16 d16 W) (hb : Below W.heap.size W W') : PlAt w g11 g13 B s SA SW r15 d15 r16 d16 W' :=
  ⟨h.at11.below hb h.at11.lt, h.at13.below hb h.at13.lt, h.keep.below hb, h.all.below hb, h.dull15.below hb, h.was.below hb, h.dull16.below hb, fun t ht => (h.oldA t ht).below hb, fun t ht => (h.oldW t ht).below hb,
    h.low.trans (hb.mono h.low.size), h.ge11, h.ge13, h.lt11, h.lt13, Nat.le_trans h.leB hb.size⟩
theorem PlAt.put11 (h : PlAt w g11 g13 B s SA SW r15 d15 r16 d16 W) {p : Nat → Option Addr} {c : Nat → Nat} {m : Mm} (hh : Hold W p c m) : PlAt w g11 g13 B { s with p := p, c := c, m := m } SA SW r15 d15 r16 d16 (W.setRow g11 (memCells p c m)) := by
  have hk : Keep W { s with p := p, c := c, m := m } := ⟨hh, h.keep.holdD⟩
  have hs : (W.setRow g11 (memCells p c m)).heap.size = W.heap.size := by simp [World.setRow]
  exact ⟨setRow_heap W _ _ _ _ _ h.at11, (setRow_other W _ _ _ (h.at13.differ h.at11 (by decide))).trans h.at13, hk.over h.at11 (memL_dull s) _, h.all.row h.lt11 _, h.dull15.row (fun g' o s e => by have := h.all.fresh g' o s e; have := h.lt11; omega) _,
    h.was.row h.lt11 _, h.dull16.row (fun g' o s e => by have := h.was.fresh g' o s e; have := h.lt11; omega) _, fun t ht => (h.oldA t ht).over h.at11 (memL_dull s) _, fun t ht => (h.oldW t ht).over h.at11 (memL_dull s) _,
    row_low h.low h.ge11 _, h.ge11, h.ge13, h.lt11, h.lt13, by rw [hs]; exact h.leB⟩
theorem PlAt.put13 (h : PlAt w g11 g13 B s SA SW r15 d15 r16 d16 W) {q : Option Addr} {e : Nat} {dm : Dm} (hh : HoldD W q e dm) : PlAt w g11 g13 B { s with q := q, d := e, dm := dm } SA SW r15 d15 r16 d16 (W.setRow g13 (dmCells q e dm)) := by
  have hk : Keep W { s with q := q, d := e, dm := dm } := ⟨h.keep.hold, hh⟩
  have hs : (W.setRow g13 (dmCells q e dm)).heap.size = W.heap.size := by simp [World.setRow]
  exact ⟨(setRow_other W _ _ _ (h.at11.differ h.at13 (by decide))).trans h.at11, setRow_heap W _ _ _ _ _ h.at13, hk.over h.at13 (dmL_dull s) _, h.all.row h.lt13 _, h.dull15.row (fun g' o s e => by have := h.all.fresh g' o s e; have := h.lt13; omega) _,
    h.was.row h.lt13 _, h.dull16.row (fun g' o s e => by have := h.was.fresh g' o s e; have := h.lt13; omega) _, fun t ht => (h.oldA t ht).over h.at13 (dmL_dull s) _, fun t ht => (h.oldW t ht).over h.at13 (dmL_dull s) _,
    row_low h.low h.ge13 _, h.ge11, h.ge13, h.lt11, h.lt13, by rw [hs]; exact h.leB⟩
theorem PlAt.push15 (h : PlAt w g11 g13 B s SA SW r15 d15 r16 d16 W) (hg : W.grownBy W' (Value.slice r15 SA.length d15).ownBlock) (hb : Below B W W') (hc : Cut2 31 5 B W' r (SA.length + 1) d (cellsOf memL SA ++ memL s)) (hd : Dull W' r) :
    PlAt w g11 g13 B s (SA ++ [s]) SW r d r16 d16 W' := by
  have hw : w.heap.size ≤ B := Nat.le_trans h.ge11 (Nat.le_of_lt h.lt11)
  have hk : ∀ t, Keep W t → Keep W' t := fun t ht => ht.grown h.dull15 hg
  refine ⟨h.at11.below hb h.lt11, h.at13.below hb h.lt13, hk s h.keep, ?_, hd, h.was.aside hg (cut_unlike (by decide) h.was h.all), h.dull16.grown hg (cut_unlike (by decide) h.was h.all), fun t ht => ?_, fun t ht => hk t (h.oldW t ht), h.low.trans (hb.mono hw), h.ge11, h.ge13, h.lt11, h.lt13, Nat.le_trans h.leB hb.size⟩
  · rw [List.length_append, cells_append]; simpa [cellsOf] using hc
  · rcases List.mem_append.1 ht with ht | ht
    · exact hk t (h.oldA t ht)
    · rw [List.mem_singleton.1 ht]; exact hk s h.keep
theorem PlAt.push16 (h : PlAt w g11 g13 B s SA SW r15 d15 r16 d16 W) (hg : W.grownBy W' (Value.slice r16 SW.length d16).ownBlock) (hb : Below B W W') (hc : Cut2 37 2 B W' r (SW.length + 1) d (cellsOf dmL SW ++ dmL s)) (hd : Dull W' r) :
    PlAt w g11 g13 B s SA (SW ++ [s]) r15 d15 r d W' := by
  have hw : w.heap.size ≤ B := Nat.le_trans h.ge11 (Nat.le_of_lt h.lt11)
  have hk : ∀ t, Keep W t → Keep W' t := fun t ht => ht.grown h.dull16 hg
  refine ⟨h.at11.below hb h.lt11, h.at13.below hb h.lt13, hk s h.keep, h.all.aside hg (cut_unlike (by decide) h.all h.was), h.dull15.grown hg (cut_unlike (by decide) h.all h.was), ?_, hd, fun t ht => hk t (h.oldA t ht), fun t ht => ?_, h.low.trans (hb.mono hw), h.ge11, h.ge13, h.lt11, h.lt13, Nat.le_trans h.leB hb.size⟩
  · rw [List.length_append, cells_append]; simpa [cellsOf] using hc
  · rcases List.mem_append.1 ht with ht | ht
    · exact hk t (h.oldW t ht)
    · rw [List.mem_singleton.1 ht]; exact hk s h.keep
end
/-! ### What acts do to the document's memory -/
def dactF (w : Dm) (a : Ac) : Dm × Int := if a.do_ = 0 then dFulfil w a.x.loc a.x.b a.x.owner else if a.do_ = 1 then dCancel w a.x.loc a.x.b a.x.owner else dAdd w a.x
theorem rep_act {m : Mm} {w : Dm} (h : Rep m w) (a : Ac) : (actF m a).2 = (dactF w a).2 ∧ Rep (actF m a).1 (dactF w a).1 := by
  unfold actF dactF
  by_cases h0 : a.do_ = 0
  · rw [if_pos h0, if_pos h0]; exact rep_fulfil h _ _ _
  rw [if_neg h0, if_neg h0]
  by_cases h1 : a.do_ = 1
  · rw [if_pos h1, if_pos h1]; exact rep_cancel h _ _ _
  rw [if_neg h1, if_neg h1]
  by_cases hm : Spn.mayF a.x.a a.x.b = true
  · rw [law_may hm]; exact rep_add h _
  · rw [Bool.not_eq_true] at hm
    have hl : Spn.mayF (lawI a.x).a (lawI a.x).b = false := by unfold lawI; rw [if_neg (by rw [hm]; decide)]; show Spn.mayF (-1) 0 = false; decide
    obtain ⟨e1, e2⟩ := may_law (m := m) (w := w) a.x (lawI a.x) hm hl
    rw [e1, e2]; exact ⟨rfl, h⟩
theorem Rep.may {m : Mm} {w : Dm} (h : Rep m w) : ∀ y ∈ w.l, Spn.mayF y.a y.b = true := fun y hy => by
  obtain ⟨h0, h1⟩ := h.loc y hy
  have := (h.mem (has_iff.2 ⟨h0, h1⟩)).2 ⟨hy, rfl⟩
  exact h.ok.may _ _ this
end Go.Proofs.Ytokkcbhmmhmfmaa.Mmr
