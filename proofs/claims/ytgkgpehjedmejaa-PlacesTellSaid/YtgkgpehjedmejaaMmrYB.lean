/- Layer 11 (memory): the document's List. -/
import Derived.Test.YtgkgpehjedmejaaMmrYA
import Derived.StillTailTactics
namespace Go.Proofs.Ytgkgpehjedmejaa.Mmr
open Go.RowKit Go.Proofs.Ytgkgpehjedmejaa.Mem Go.Proofs.Ytgkgpehjedmejaa.Flow

theorem rowRt : RowT Try.prog 23 60 14 112 := rowT_of (z := .agg zeroRt) Try.underlying23 (by kernel_rfl) rfl (by decide)
theorem rts_one (l : List It) : ∀ u ∈ cellsOf rtL l, u.oneCell' = true := fun u hu => by
  unfold cellsOf at hu
  obtain ⟨x, _, hx⟩ := List.mem_flatMap.1 hu
  have := rt_one x
  rw [Array.all_eq_true_iff_forall_mem] at this
  exact this u (by unfold rtL at hx; simpa using hx)
theorem rts_new {W : World} {g : Nat} {x : It} (h : Sits W g 60 (rtCells x)) : Rts W (some ⟨g, 0, none⟩) [x] := fun k y hy => by
  cases k with
  | zero => simp at hy; subst hy; exact ⟨g, 0, rfl, h.lt, fun i hi => by simpa using h.cell i⟩
  | succ k => simp at hy
theorem dslice_to (r : Option Addr) (n d i : Nat) (h : i ≤ d) (w : World) : (Instr.slice 23 (.slice r n d) none (some (.int .i64 (i : Nat))) none).run Try.prog w = .ok (.slice r i d) w := by
  have h1 : (i : Int) ≤ (d : Int) := by omega
  simp only [Instr.slice, Sem.run_bind, run_underlying Try.underlying23, Result.andThen, Instr.sliceBounds, Try.sizeOf60]
  simp [run_sliceBound_if, h1, Addr.add]
theorem dslice_from (r : Option Addr) (n d j : Nat) (h : j ≤ n) (hn : n ≤ d) : ∃ r', (∀ w, (Instr.slice 23 (.slice r n d) (some (.int .i64 (j : Nat))) none none).run Try.prog w = .ok (.slice r' (n - j) (d - j)) w) ∧
    ∀ (W : World) (l : List It), l.length = n → Rts W r l → Rts W r' (l.drop j) := by
  have h1 : (j : Int) ≤ (n : Int) := by omega
  refine ⟨if d = j then r else r.map (·.add (j * 14)), fun w => ?_, fun W l hl hr k x hx => ?_⟩
  · simp only [Instr.slice, Sem.run_bind, run_underlying Try.underlying23, Result.andThen, Instr.sliceBounds, Try.sizeOf60]
    simp [run_sliceBound_if, h1]
  · rw [List.getElem?_drop] at hx
    have hlt := (List.getElem?_eq_some_iff.1 hx).1
    obtain ⟨g, o, e, hg, hc⟩ := hr (j + k) x hx
    subst e
    rw [if_neg (by omega)]
    refine ⟨g, o + j * 14, by simp [Addr.add_lit], hg, fun i hi => ?_⟩
    rw [← hc i hi, show o + j * 14 + k * 14 = o + (j + k) * 14 by rw [Nat.add_mul]; omega]
/-- As Cut, but one's own row for certain. -/
structure Cut2 (e : TypeId) (size B : Nat) (w : World) (r : Option Addr) (n d : Nat) (xs : List Value) : Prop where
  lay : Lay w r xs
  len : xs.length = n * size
  room : n ≤ d
  own : w.ownsRow B e size (.slice r n d) n xs
theorem cut2_of {e : TypeId} {size B : Nat} {w : World} {r : Option Addr} {n d : Nat} {xs : List Value} (h : w.ownsRow B e size (.slice r n d) n xs) : Cut2 e size B w r n d xs :=
  ⟨own_lay h, h.1, by
    obtain ⟨_, h | ⟨g, cap, cur, e1, _, _, h4, _⟩⟩ := h
    · omega
    · injection e1 with _ _ e3; omega, h⟩
theorem Cut2.fresh {e : TypeId} {size B : Nat} {w : World} {r : Option Addr} {n d : Nat} {xs : List Value} (h : Cut2 e size B w r n d xs) : ∀ g o s, r = some ⟨g, o, s⟩ → B ≤ g ∧ g < w.heap.size := fun g o s hr => by
  subst hr
  obtain ⟨_, h | ⟨g', cap, cur, e1, h2, h3, _⟩⟩ := h.own
  · cases h.1
  · injection e1 with e1; injection e1 with e1; injection e1 with e1
    subst e1
    exact ⟨h2, lt_of_block h3⟩
theorem Cut2.below {e : TypeId} {size B : Nat} {w w' : World} {r : Option Addr} {n d : Nat} {xs : List Value} (h : Cut2 e size B w r n d xs) (hb : Below w.heap.size w w') : Cut2 e size B w' r n d xs :=
  cut2_of ⟨h.own.1, h.own.2.imp id fun ⟨g, cap, cur, e1, e2, e3, e4⟩ => ⟨g, cap, cur, e1, e2, (hb.block g (lt_of_block e3)).trans e3, e4⟩⟩
theorem Cut2.low {e : TypeId} {size B B' : Nat} {w : World} {r : Option Addr} {n d : Nat} {xs : List Value} (h : Cut2 e size B' w r n d xs) (hB : B ≤ B') : Cut2 e size B w r n d xs := cut2_of (own_base h.own hB)
theorem run_append_cut2 {P : Program} {t e : TypeId} {size bytes : Nat} (T : RowT P t e size bytes) (ty : TypeId) {B : Nat} {w : World} {r : Option Addr} {n d : Nat} {xs : List Value} (h : Cut2 e size B w r n d xs) (hB : B ≤ w.heap.size)
    (q : Option Addr) (m c : Nat) (ys : List Value) (hy : ys.length = m * size) (hq : Lay w q ys) (h1 : ∀ u ∈ ys, u.oneCell' = true) (h63 : n + m ≤ maxLen) (hb : (n + m) * bytes ≤ 140737488355328) :
    ∃ r' d' w', (Builtin.append_ #[t, t] ty #[.slice r n d, .slice q m c]).run P w = .ok (.slice r' (n + m) d') w' ∧ (w.grownBy w' (Value.slice r n d).ownBlock ∧ (∀ g o s, r' = some ⟨g, o, s⟩ → (Value.slice r n d).ownBlock = some g ∨ w.heap.size ≤ g)) ∧ Below B w w' ∧ Cut2 e size B w' r' (n + m) d' (xs ++ ys) := by
  obtain ⟨i, z, hi, hz, hs, hby, hzs⟩ := T.info
  rcases Nat.eq_zero_or_pos m with rfl | hm
  · have hy0 : ys = [] := List.eq_nil_of_length_eq_zero (by rw [hy, Nat.zero_mul])
    subst hy0
    have hs' : Src P i.size t (.slice q 0 c) 0 [] w := by
      cases q with
      | none => exact Src.ofNil w T.row c
      | some a => exact Src.ofSlice w T.row a 0 c [] (by simp) (by simp) (by simp)
    exact ⟨r, d, w, run_append_nothing w t t ty e i T.row hi r n d h.room _ hs', ⟨⟨rfl, rfl, rfl, Nat.le_refl _, fun _ _ _ => rfl⟩, fun g o s hr => .inl (by rw [hr]; rfl)⟩, Below.refl _ _, by rw [List.append_nil]; exact h⟩
  · have hy0 : 0 < ys.length := by rw [hy]; exact Nat.mul_pos hm T.pos
    obtain ⟨g, o, rfl, _, _⟩ := hq 0 ys[0] (List.getElem?_eq_getElem hy0)
    obtain ⟨g', cap, w', hr, ho, hg, hat, hlt⟩ := run_append_lies (P := P) w t ty B e i z size bytes T.row hi hz hs hby hzs T.pos (.slice r n d) n xs h.own ⟨g, o, none⟩ m c ys hy (fun j u hu => by
      obtain ⟨g', o', e', _, hcu⟩ := hq j u hu
      injection e' with e'; injection e' with e1 e2; subst e1 e2
      rw [Addr.add_lit]; exact hcu) h1 hm h63 hb hB _ rfl
    refine ⟨some ⟨g', 0, none⟩, cap, w', hr, ⟨hg, fun g o s hr => by
      injection hr with hr; injection hr with hr; subst hr
      exact hat.imp id (fun h => by omega)⟩, (Below.refl B w).grown hg hB (fun k hk => ?_), cut2_of ho⟩
    obtain ⟨_, h | ⟨g2, cap2, cur, e1, h2, _⟩⟩ := h.own
    · rw [h.1] at hk; simp [Value.ownBlock] at hk
    · rw [e1] at hk; simp [Value.ownBlock] at hk; omega
theorem wpList_append_cut2 {P : Program} {t e : TypeId} {size bytes : Nat} (T : RowT P t e size bytes) {ops : Array Oper} {rest : List Oper} {o : Oper} {a : Act} {Q : Exit → Act → World → Prop} (hgd : o.guard = none) (s x : Operand)
    (ho : o.op = .call { callee := .builtin .append, args := #[s, x], argTypes := #[t, t] }) {B : Nat} {w : World} {r : Option Addr} {n d : Nat} {xs : List Value} (hs : a.eval s = .slice r n d) (h : Cut2 e size B w r n d xs) (hB : B ≤ w.heap.size)
    (q : Option Addr) (m c : Nat) (ys : List Value) (hx : a.eval x = .slice q m c) (hy : ys.length = m * size) (hq : Lay w q ys) (h1 : ∀ u ∈ ys, u.oneCell' = true) (h63 : n + m ≤ maxLen) (hb : (n + m) * bytes ≤ 140737488355328)
    (hk : ∀ r' d' w', (w.grownBy w' (Value.slice r n d).ownBlock ∧ (∀ g o s, r' = some ⟨g, o, s⟩ → (Value.slice r n d).ownBlock = some g ∨ w.heap.size ≤ g)) → Below B w w' → Cut2 e size B w' r' (n + m) d' (xs ++ ys) → wpList P ops Q rest (a.put o.dst (.slice r' (n + m) d')) w') : wpList P ops Q (o :: rest) a w :=
  wpList_plain hgd fun _ hK => by
    obtain ⟨r', d', w', hr, hgr, hbl, hc⟩ := run_append_cut2 T o.type h hB q m c ys hy hq h1 h63 hb
    unfold Oper.wp execOp
    simp only [ho, resolve, invoke, builtin, Sem.run_bind, Sem.run_pure, Result.andThen_ok, List.map_toArray, List.map_cons, List.map_nil, hs, hx, hr]
    exact hK _ _ (hk r' d' w' hgr hbl hc)
theorem nil_cut (e : TypeId) (size B : Nat) (w : World) : Cut2 e size B w none 0 0 (cellsOf rtL []) := cut2_of ⟨by rw [Nat.zero_mul]; rfl, .inl ⟨rfl, rfl⟩⟩
theorem rts_grown {W W' : World} {p : Option Addr} {l : List It} {row : Option Nat} (h : Rts W p l) (hg : W.grownBy W' row) (hf : ∀ g o s, p = some ⟨g, o, s⟩ → row ≠ some g) : Rts W' p l := fun k x hx => by
  obtain ⟨g, o, e, hlt, hc⟩ := h k x hx
  exact ⟨g, o, e, Nat.lt_of_lt_of_le hlt hg.size, fun i hi => (World.cell?_of_block (a := ⟨g, o + k * 14 + i, none⟩) (hg.block g hlt (fun e' => hf g o none e e'.symm))).trans (hc i hi)⟩
/-- Two rows lie in unlike blocks. -/
def Far (p q : Option Addr) : Prop := ∀ g o s g' o' s', p = some ⟨g, o, s⟩ → q = some ⟨g', o', s'⟩ → g ≠ g'
theorem Far.own {p q : Option Addr} (h : Far p q) (n d : Nat) : ∀ g o s, p = some ⟨g, o, s⟩ → (Value.slice q n d).ownBlock ≠ some g := fun g o s hp he => by
  cases q with
  | none => simp [Value.ownBlock] at he
  | some a => obtain ⟨g', o', s'⟩ := a; simp [Value.ownBlock] at he; exact h g o s g' o' s' hp rfl he.symm
def outF (m : Dm) (loc : Int) (k : Nat) : List It := (atL (m.l.take k) loc).foldl insI []
theorem outF_zero (m : Dm) (loc : Int) : outF m loc 0 = [] := by unfold outF; rfl
theorem outF_all (m : Dm) (loc : Int) : outF m loc m.l.length = dList m loc := by unfold outF dList; rw [List.take_length]
theorem outF_no {m : Dm} {loc : Int} {k : Nat} {x : It} (h : m.l[k]? = some x) (hx : x.loc ≠ loc) : outF m loc (k + 1) = outF m loc k := by
  unfold outF
  rw [List.take_add_one, h, Option.toList_some, atL_append, atL_no hx, show atL [] loc = [] from rfl, List.append_nil]
theorem ins_pos (out : List It) (x : It) : insI out x = out.take (posI out x) ++ [x] ++ out.drop (posI out x) := by
  have e := List.takeWhile_append_dropWhile (p := fun y => lessI y x) (l := out)
  have h1 : out.take (posI out x) = out.takeWhile fun y => lessI y x := by
    unfold posI
    conv => lhs; arg 2; rw [← e]
    rw [List.take_left']; rfl
  have h2 : out.drop (posI out x) = out.dropWhile fun y => lessI y x := by
    unfold posI
    conv => lhs; arg 2; rw [← e]
    rw [List.drop_left']; rfl
  unfold insI
  rw [h1, h2]
theorem outF_yes {m : Dm} {loc : Int} {k : Nat} {x : It} (h : m.l[k]? = some x) (hx : x.loc = loc) : outF m loc (k + 1) = (outF m loc k).take (posI (outF m loc k) x) ++ [x] ++ (outF m loc k).drop (posI (outF m loc k) x) := by
  rw [← ins_pos]
  unfold outF
  rw [List.take_add_one, h, Option.toList_some, atL_append, atL_yes hx, show atL [] loc = [] from rfl, List.foldl_append]; rfl
theorem ins_len (out : List It) (x : It) : (insI out x).length = out.length + 1 := (ins_perm out x).length_eq
theorem outF_len (m : Dm) (loc : Int) (k : Nat) : (outF m loc k).length ≤ m.l.length := by
  have : ∀ (l out : List It), (l.foldl insI out).length = out.length + l.length := by
    intro l
    induction l with
    | nil => simp
    | cons x l ih => intro out; rw [List.foldl_cons, ih, ins_len, List.length_cons]; omega
  unfold outF
  rw [this]
  have h1 : (atL (m.l.take k) loc).length ≤ (m.l.take k).length := List.length_filter_le _ _
  rw [List.length_take] at h1
  simp; omega
theorem pos_is : ∀ {l : List It} {x : It} {t : Nat}, t ≤ l.length → (∀ j y, j < t → l[j]? = some y → lessI y x = true) → (∀ y, l[t]? = some y → lessI y x = false) → posI l x = t
  | [], x, t, ht, _, _ => by simp at ht; subst ht; rfl
  | z :: l, x, 0, _, _, h => by unfold posI; rw [List.takeWhile_cons, h z rfl]; rfl
  | z :: l, x, t + 1, ht, h1, h2 => by
    have := pos_is (l := l) (x := x) (t := t) (by simpa using ht) (fun j y hj hy => h1 (j + 1) y (by omega) (by simpa using hy)) (fun y hy => h2 y (by simpa using hy))
    unfold posI at this ⊢
    rw [List.takeWhile_cons, h1 0 z (by omega) rfl]
    simp [this]
structure OutAt (w : World) (r : Option Addr) (d : Nat) (l : List It) (W : World) : Prop where
  cut : Cut2 60 14 w.heap.size W r l.length d (cellsOf rtL l)
  low : Below w.heap.size w W
theorem OutAt.grown {w W W' : World} {r : Option Addr} {d : Nat} {l : List It} (h : OutAt w r d l W) (hb : Below W.heap.size W W') : OutAt w r d l W' := ⟨h.cut.below hb, h.low.trans (hb.mono h.low.size)⟩
def GivesR (l : List It) (w : World) (e : Ending) (w' : World) : Prop := ∃ r d, e = .returned (.slice r l.length d) ∧ Rts w' r l ∧ Below w.heap.size w w' ∧ ∀ g o s, r = some ⟨g, o, s⟩ → w.heap.size ≤ g ∧ g < w'.heap.size
set_option maxRecDepth 100000 in
set_option maxHeartbeats 4000000 in
theorem dlist_any (q : Option Addr) (c : Nat) (m : Dm) (hn : m.l.length ≤ 1000) (loc : Int) (w : World) (hH : HoldD w q c m) :
    Calls Try.prog 22 #[dmV q c m, .int .i64 loc] w (GivesR (dList m loc) w) := by
  have HH := Lib.hid hH
  have HB := Lib.hid (one_low w (.cells (dmCells q c m) 30))
  have HS := Lib.hid (Sits.new w 30 (dmCells q c m))
  have i1 : (m.l.length : Int) ≤ 1000 := by omega
  clear hH hn
  go_enter Try.func22, Try.ntmps22
  go_upto_region 1 with (fail)
  generalize w.alloc (.cells (dmCells q c m) 30) = w0 at HB HS ⊢
  have H0 : Hid (OutAt w none 0 (outF m loc 0) w0) := Lib.hid ⟨by rw [outF_zero]; exact nil_cut _ _ _ _, HB.out⟩
  go_wp2_with fail
  go_loopg [5, 6] m.l.length (fun gg v5 v6 wx => ∃ k r d, k ≤ m.l.length ∧ gg = m.l.length - k ∧ v6 = .int .i64 (k : Nat) ∧ v5 = .slice r (outF m loc k).length d ∧ Hid (OutAt w r d (outF m loc k) wx) ∧ Hid (Sits wx w.heap.size 30 (dmCells q c m)))
  case atStart => exact ⟨0, none, 0, by omega, by omega, rfl, by rw [outF_zero]; rfl, H0, HS⟩
  case round =>
    obtain ⟨k, r, d, hk, rfl, rfl, rfl, HO, HS2⟩ := hrel
    have b0 : wr.cell? ⟨w.heap.size, 0, none⟩ = some (.int .i64 (m.n : Nat)) := HS2.out.cell 0
    have b1 : wr.cell? ⟨w.heap.size, 1, none⟩ = some (.slice q m.l.length c) := HS2.out.cell 1
    have lb := HS2.out.lt
    by_cases hlt : k < m.l.length
    · have hx : m.l[k]? = some m.l[k] := List.getElem?_eq_getElem hlt
      have HX := Lib.hid hx
      have HRW := Lib.hid (HH.out.row.below HO.out.low)
      obtain ⟨g, o, rfl, lg, hc⟩ := HRW.out.there hx
      generalize m.l[k] = x at hx hc HX
      have HRT := Lib.hid hc
      obtain ⟨c0, c1, c2, c3, c4, c5, c6, c7, c8, c9, c10, c11, c12, c13⟩ := hc
      have j1 : (k : Int) < (m.l.length : Int) := by omega
      have j0 : (0 : Int) ≤ (k : Int) := by omega
      have HK := Lib.hid hlt
      have HLG := Lib.hid lg
      clear hx hlt hk
      by_cases hl : x.loc = loc
      · have hl' : (x.loc != loc) = false := by simpa using hl
        have HY := Lib.hid (outF_yes HX.out hl)
        clear hl
        have HOL := Lib.hid (outF_len m loc k)
        have i2 : ((outF m loc k).length : Int) ≤ 1000 := by have := outF_len m loc k; omega
        generalize outF m loc k = out at HO HY HOL i2 ⊢
        have HTT := Lib.hid (show ∀ t : Nat, t ≤ out.length → (∀ j y, j < t → out[j]? = some y → lessI y x = true) → (∀ y, out[t]? = some y → lessI y x = false) → posI out x = t from fun t => pos_is)
        go_wp2_with fail
        clear b0 b1 lb c0 c1 c2 c3 c4 c5 c6 c7 c8 c9 c10 c11 c12 c13 lg
        go_loopg [7] out.length (fun gg v7 wx => ∃ t, t ≤ out.length ∧ gg = out.length - t ∧ v7 = .int .i64 (t : Nat) ∧ Hid (∀ j y, j < t → out[j]? = some y → lessI y x = true) ∧ Hid (OutAt w r d out wx) ∧ Hid (Sits wx w.heap.size 30 (dmCells (some ⟨g, o, none⟩) c m)))
        case atStart => exact ⟨0, by omega, by omega, rfl, Lib.hid (fun j y h => by omega), HO, HS2⟩
        case round =>
          obtain ⟨t, ht, rfl, rfl, HF, HO2, HS3⟩ := hrel
          have b0 : wr.cell? ⟨w.heap.size, 0, none⟩ = some (.int .i64 (m.n : Nat)) := HS3.out.cell 0
          have b1 : wr.cell? ⟨w.heap.size, 1, none⟩ = some (.slice (some ⟨g, o, none⟩) m.l.length c) := HS3.out.cell 1
          have lb := HS3.out.lt
          by_cases hlt : t < out.length
          · have hy : out[t]? = some out[t] := List.getElem?_eq_getElem hlt
            have HYT := Lib.hid hy
            obtain ⟨g2, o2, rfl, lg2, hd⟩ := HO2.out.cut.lay.rts.there hy
            generalize out[t] = y at hy hd HYT
            obtain ⟨d0, d1, d2, d3, d4, d5, d6, d7, d8, d9, d10, d11, d12, d13⟩ := hd
            obtain ⟨g1, o1, e1, lg, hc⟩ := (HH.out.row.below HO2.out.low).there HX.out
            injection e1 with e1
            injection e1 with e1 e1'
            subst e1 e1'
            obtain ⟨c0, c1, c2, c3, c4, c5, c6, c7, c8, c9, c10, c11, c12, c13⟩ := hc
            have j2 : (t : Int) < (out.length : Int) := by omega
            have j3 : (0 : Int) ≤ (t : Int) := by omega
            have HT := Lib.hid hlt
            clear hy hlt ht
            go_wp2_with fail
            go_still_tail 16, (by kernel_rfl)
            change wpList _ _ _ _ _ wr.drew
            have HBD : Hid (Below wr.heap.size wr wr.drew) := Lib.hid (Below.refl _ wr).drew
            have HO8 := Lib.hid (HO2.out.grown HBD.out)
            have HS8 := Lib.hid (HS3.out.below HBD.out HS3.out.lt)
            clear c0 c1 c2 c3 c4 c5 c6 c7 c8 c9 c10 c11 c12 c13 d0 d1 d2 d3 d4 d5 d6 d7 d8 d9 d10 d11 d12 d13 lg lg2 b0 b1 lb
            generalize wr.drew = w7 at HO8 HS8 HBD ⊢
            cases hφ : lessI y x
            · have HC : Hid (∀ W, Calls Try.prog 43 #[Spn.pairV y.a y.b, Spn.pairV x.a x.b] W fun e w' => e = .returned (.bool false) ∧ Below W.heap.size W w') := Lib.hid fun W => by
                have := Spn.less_any y.a y.b x.a x.b W
                rwa [show Spn.lessF y.a y.b x.a x.b = false from hφ] at this
              have HP := Lib.hid (HTT.out t (Nat.le_of_lt HT.out) HF.out (fun z hz => by rw [HYT.out] at hz; injection hz with hz; rw [← hz]; exact hφ))
              have HTL : Hid (t ≤ out.length) := Lib.hid (Nat.le_of_lt HT.out)
              clear hφ
              have HTD : Hid (t ≤ d) := Lib.hid (by have := HO8.out.cut.room; have := HTL.out; omega)
              have hs1 := dslice_to (some ⟨g2, o2, none⟩) out.length d t HTD.out
              obtain ⟨r', hs2, hr'⟩ := dslice_from (some ⟨g2, o2, none⟩) out.length d t HTL.out HO8.out.cut.room
              have i6 : (t : Int) ≤ (d : Int) := by have := HTD.out; omega
              have i7 : (0 : Int) ≤ (t : Int) := by omega
              have i8 : (t : Int) ≤ (out.length : Int) := by have := HTL.out; omega
              have HLE := Lib.hid (show out.length ≤ 1000 by omega)
              go_upto_region 9 with (go_at_call 43; refine (HC.out _).mono ?_; rintro e w8 ⟨rfl, hb9⟩)
              have HO4 := Lib.hid (HO8.out.grown hb9)
              have HSM := Lib.hid (HS8.out.below hb9 HS8.out.lt)
              have HRX0 := Lib.hid (HH.out.row.below HO4.out.low)
              clear hb9
              have HR' := Lib.hid (hr' _ out rfl HO4.out.cut.lay.rts)
              have HTK := Lib.hid (show (out.take t).length = t by rw [List.length_take]; have := HTL.out; omega)
              have HDK := Lib.hid (show (out.drop t).length = out.length - t by rw [List.length_drop])
              go_wp2_with (at_builtin; refine wpList_append_cut2 rowRt rfl _ _ rfl (B := w8.heap.size) (r := none) (n := 0) (d := 0) (xs := cellsOf rtL []) rfl (nil_cut _ _ _ _) (Nat.le_refl _) (some ⟨g2, o2, none⟩) t d (cellsOf rtL (out.take t)) rfl (by rw [cells_len rtL_len, HTK.out]) (HO4.out.cut.lay.rts.upto t).lay (rts_one _) (by unfold maxLen; have := HTL.out; have := HLE.out; omega) (by have := HTL.out; have := HLE.out; omega) ?_)
              intro r1 d1 w1 _ _ hb1 hc1
              try rw [Nat.zero_add] at hc1
              have HC1 : Hid (Cut2 60 14 w8.heap.size w1 r1 t d1 (cellsOf rtL (out.take t))) := Lib.hid (by first | exact hc1 | (rw [List.take_length]; exact hc1))
              have HB1 := Lib.hid hb1
              have HSM1 := Lib.hid (HSM.out.below hb1 HSM.out.lt)
              obtain ⟨g3, o3, e1, lg, hc⟩ := (HRX0.out.below hb1).there HX.out
              injection e1 with e1
              injection e1 with e1 e1'
              subst e1 e1'
              have b0 : w1.cell? ⟨w.heap.size, 0, none⟩ = some (.int .i64 (m.n : Nat)) := HSM1.out.cell 0
              have b1 : w1.cell? ⟨w.heap.size, 1, none⟩ = some (.slice (some ⟨g, o, none⟩) m.l.length c) := HSM1.out.cell 1
              have lb := HSM1.out.lt
              obtain ⟨c0, c1, c2, c3, c4, c5, c6, c7, c8, c9, c10, c11, c12, c13⟩ := hc
              have HI1 := Lib.hid (rts_new (Sits.new w1 60 (rtCells x)))
              have HC1' := Lib.hid (HC1.out.below (one_low w1 (.cells (rtCells x) 60)))
              have HBX := Lib.hid (one_low w1 (.cells (rtCells x) 60))
              clear hb1 hc1
              go_wp2_with (at_builtin; refine wpList_append_cut2 rowRt rfl _ _ rfl (B := w8.heap.size) (r := r1) (n := t) (d := d1) (xs := cellsOf rtL (out.take t)) rfl HC1'.out (by have := HB1.out.size; simp; omega) (some ⟨w1.heap.size, 0, none⟩) 1 1 (cellsOf rtL [x]) rfl rfl HI1.out.lay (rts_one [x]) (by unfold maxLen; have := HTL.out; have := HLE.out; omega) (by have := HTL.out; have := HLE.out; omega) ?_)
              intro r2 d2 w2 _ _ hb2 hc2
              have HB8 : Hid (Below w8.heap.size w8 w2) := Lib.hid ((HB1.out.trans (HBX.out.mono HB1.out.size)).trans hb2)
              have HC2 := Lib.hid hc2
              have HSM2 := Lib.hid (HSM.out.below HB8.out HSM.out.lt)
              have HQ2 := Lib.hid (HR'.out.below HB8.out)
              clear hb2 hc2 b0 b1 lb c0 c1 c2 c3 c4 c5 c6 c7 c8 c9 c10 c11 c12 c13 lg
              go_wp2_with (at_builtin; refine wpList_append_cut2 rowRt rfl _ _ rfl (B := w8.heap.size) (r := r2) (n := t + 1) (d := d2) (xs := cellsOf rtL (out.take t) ++ cellsOf rtL [x]) rfl HC2.out HB8.out.size r' (out.length - t) (d - t) (cellsOf rtL (out.drop t)) (by simp [go_sem]) (by rw [cells_len rtL_len, HDK.out]) HQ2.out.lay (rts_one _) (by unfold maxLen; have := HTL.out; have := HLE.out; omega) (by have := HTL.out; have := HLE.out; omega) ?_)
              intro r3 d3 w3 _ _ hb3 hc3
              have HLN : Hid ((outF m loc (k + 1)).length = t + 1 + (out.length - t)) := Lib.hid (by rw [HY.out, HP.out]; simp; have := HTL.out; omega)
              have HO5 : Hid (OutAt w r3 d3 (outF m loc (k + 1)) w3) := Lib.hid ⟨by
                rw [HLN.out, HY.out, HP.out, cells_append, cells_append]
                first | exact hc3.low HO4.out.low.size | (rw [List.append_assoc]; exact hc3.low HO4.out.low.size), (HO4.out.low.trans (HB8.out.mono HO4.out.low.size)).trans (hb3.mono HO4.out.low.size)⟩
              have HSM3 := Lib.hid (HSM2.out.below hb3 HSM.out.lt)
              clear hb3 hc3
              go_wp2_with fail
              go_roundg (m.l.length - (k + 1))
              case measure => have := HK.out; omega
              case rel => exact ⟨k + 1, r3, d3, by have := HK.out; omega, rfl, by go_num, by rw [HLN.out], HO5, HSM3⟩
            · have HC : Hid (∀ W, Calls Try.prog 43 #[Spn.pairV y.a y.b, Spn.pairV x.a x.b] W fun e w' => e = .returned (.bool true) ∧ Below W.heap.size W w') := Lib.hid fun W => by
                have := Spn.less_any y.a y.b x.a x.b W
                rwa [show Spn.lessF y.a y.b x.a x.b = true from hφ] at this
              have HF2 : Hid (∀ j z, j < t + 1 → out[j]? = some z → lessI z x = true) := Lib.hid fun j z hj hz => by
                by_cases hjt : j < t
                · exact HF.out j z hjt hz
                · obtain rfl : j = t := by omega
                  rw [HYT.out] at hz; injection hz with hz; rw [← hz]; exact hφ
              clear hφ
              go_wp2_with (go_at_call 43; refine (HC.out _).mono ?_; rintro e w8 ⟨rfl, hb9⟩)
              go_roundg (out.length - (t + 1))
              case measure => have := HT.out; omega
              case rel => exact ⟨t + 1, by have := HT.out; omega, rfl, by go_num, HF2, Lib.hid (HO8.out.grown hb9), Lib.hid (HS8.out.below hb9 HS8.out.lt)⟩
          · have j2 : decide (t < out.length) = false := decide_eq_false hlt
            have j4 : ¬ t < out.length := hlt
            have HP := Lib.hid (HTT.out t ht HF.out (fun y hy => absurd (List.getElem?_eq_some_iff.1 hy).1 hlt))
            have HTL : Hid (t ≤ out.length) := Lib.hid ht
            clear ht hlt b0 b1 lb
            have HTD : Hid (t ≤ d) := Lib.hid (by have := HO2.out.cut.room; have := HTL.out; omega)
            have hs1 := dslice_to r out.length d t HTD.out
            obtain ⟨r', hs2, hr'⟩ := dslice_from r out.length d t HTL.out HO2.out.cut.room
            have i6 : (t : Int) ≤ (d : Int) := by have := HTD.out; omega
            have i7 : (0 : Int) ≤ (t : Int) := by omega
            have i8 : (t : Int) ≤ (out.length : Int) := by have := HTL.out; omega
            have HLE := Lib.hid (show out.length ≤ 1000 by omega)
            go_wp2_with fail
            go_quiet (fail)
            have HO4 := Lib.hid (HO2.out.grown (drewN_below (Below.refl wr.heap.size wr) nq))
            have HSM := Lib.hid (HS3.out.below (drewN_below (Below.refl wr.heap.size wr) nq) HS3.out.lt)
            generalize wr.drewN nq = w8 at HO4 HSM ⊢
            have HRX0 := Lib.hid (HH.out.row.below HO4.out.low)
            have HR' := Lib.hid (hr' _ out rfl HO4.out.cut.lay.rts)
            have HTK := Lib.hid (show (out.take t).length = t by rw [List.length_take]; have := HTL.out; omega)
            have HDK := Lib.hid (show (out.drop t).length = out.length - t by rw [List.length_drop])
            go_wp2_with (at_builtin; refine wpList_append_cut2 rowRt rfl _ _ rfl (B := w8.heap.size) (r := none) (n := 0) (d := 0) (xs := cellsOf rtL []) rfl (nil_cut _ _ _ _) (Nat.le_refl _) r t d (cellsOf rtL (out.take t)) rfl (by rw [cells_len rtL_len, HTK.out]) (HO4.out.cut.lay.rts.upto t).lay (rts_one _) (by unfold maxLen; have := HTL.out; have := HLE.out; omega) (by have := HTL.out; have := HLE.out; omega) ?_)
            intro r1 d1 w1 _ _ hb1 hc1
            try rw [Nat.zero_add] at hc1
            have HC1 : Hid (Cut2 60 14 w8.heap.size w1 r1 t d1 (cellsOf rtL (out.take t))) := Lib.hid (by first | exact hc1 | (rw [List.take_length]; exact hc1))
            have HB1 := Lib.hid hb1
            have HSM1 := Lib.hid (HSM.out.below hb1 HSM.out.lt)
            obtain ⟨g3, o3, e1, lg, hc⟩ := (HRX0.out.below hb1).there HX.out
            injection e1 with e1
            injection e1 with e1 e1'
            subst e1 e1'
            have b0 : w1.cell? ⟨w.heap.size, 0, none⟩ = some (.int .i64 (m.n : Nat)) := HSM1.out.cell 0
            have b1 : w1.cell? ⟨w.heap.size, 1, none⟩ = some (.slice (some ⟨g, o, none⟩) m.l.length c) := HSM1.out.cell 1
            have lb := HSM1.out.lt
            obtain ⟨c0, c1, c2, c3, c4, c5, c6, c7, c8, c9, c10, c11, c12, c13⟩ := hc
            have HI1 := Lib.hid (rts_new (Sits.new w1 60 (rtCells x)))
            have HC1' := Lib.hid (HC1.out.below (one_low w1 (.cells (rtCells x) 60)))
            have HBX := Lib.hid (one_low w1 (.cells (rtCells x) 60))
            clear hb1 hc1
            go_wp2_with (at_builtin; refine wpList_append_cut2 rowRt rfl _ _ rfl (B := w8.heap.size) (r := r1) (n := t) (d := d1) (xs := cellsOf rtL (out.take t)) rfl HC1'.out (by have := HB1.out.size; simp; omega) (some ⟨w1.heap.size, 0, none⟩) 1 1 (cellsOf rtL [x]) rfl rfl HI1.out.lay (rts_one [x]) (by unfold maxLen; have := HTL.out; have := HLE.out; omega) (by have := HTL.out; have := HLE.out; omega) ?_)
            intro r2 d2 w2 _ _ hb2 hc2
            have HB8 : Hid (Below w8.heap.size w8 w2) := Lib.hid ((HB1.out.trans (HBX.out.mono HB1.out.size)).trans hb2)
            have HC2 := Lib.hid hc2
            have HSM2 := Lib.hid (HSM.out.below HB8.out HSM.out.lt)
            have HQ2 := Lib.hid (HR'.out.below HB8.out)
            clear hb2 hc2 b0 b1 lb c0 c1 c2 c3 c4 c5 c6 c7 c8 c9 c10 c11 c12 c13 lg
            go_wp2_with (at_builtin; refine wpList_append_cut2 rowRt rfl _ _ rfl (B := w8.heap.size) (r := r2) (n := t + 1) (d := d2) (xs := cellsOf rtL (out.take t) ++ cellsOf rtL [x]) rfl HC2.out HB8.out.size r' (out.length - t) (d - t) (cellsOf rtL (out.drop t)) (by simp [go_sem]) (by rw [cells_len rtL_len, HDK.out]) HQ2.out.lay (rts_one _) (by unfold maxLen; have := HTL.out; have := HLE.out; omega) (by have := HTL.out; have := HLE.out; omega) ?_)
            intro r3 d3 w3 _ _ hb3 hc3
            have HLN : Hid ((outF m loc (k + 1)).length = t + 1 + (out.length - t)) := Lib.hid (by rw [HY.out, HP.out]; simp; have := HTL.out; omega)
            have HO5 : Hid (OutAt w r3 d3 (outF m loc (k + 1)) w3) := Lib.hid ⟨by
              rw [HLN.out, HY.out, HP.out, cells_append, cells_append]
              first | exact hc3.low HO4.out.low.size | (rw [List.append_assoc]; exact hc3.low HO4.out.low.size), (HO4.out.low.trans (HB8.out.mono HO4.out.low.size)).trans (hb3.mono HO4.out.low.size)⟩
            have HSM3 := Lib.hid (HSM2.out.below hb3 HSM.out.lt)
            clear hb3 hc3
            go_wp2_with fail
            go_roundg (m.l.length - (k + 1))
            case measure => have := HK.out; omega
            case rel => exact ⟨k + 1, r3, d3, by have := HK.out; omega, rfl, by go_num, by rw [HLN.out], HO5, HSM3⟩
      · have hl' : (x.loc != loc) = true := by simpa using hl
        have HY := Lib.hid (outF_no HX.out hl)
        clear hl
        rw [← HY.out] at HO ⊢
        go_wp2_with fail
        go_roundg (m.l.length - (k + 1))
        case measure => have := HK.out; omega
        case rel => exact ⟨k + 1, r, d, by have := HK.out; omega, rfl, by go_num, rfl, HO, HS2⟩
    · obtain rfl : k = m.l.length := by omega
      rw [outF_all] at HO ⊢
      clear hlt hk
      go_wp2_with fail
      go_ret
      exact ⟨r, d, rfl, HO.out.cut.lay.rts, HO.out.low, HO.out.cut.fresh⟩
end Go.Proofs.Ytgkgpehjedmejaa.Mmr
