/- Layer 11 (memory): what append makes of any row that is full, or one's own; with. -/
import Derived.Test.YtgkgpehjedmejaaMmrE
import Derived.Test.YtgkgpehjedmejaaFlowC
import Derived.Deep.Cut
namespace Go.Proofs.Ytgkgpehjedmejaa.Mmr
open Go.RowKit Go.Proofs.Ytgkgpehjedmejaa.Mem Go.Proofs.Ytgkgpehjedmejaa.Flow

/-- What append asks of a type of rows. -/
structure RowT (P : Program) (t e : TypeId) (size bytes : Nat) : Prop where
  row : P.underlying t = some (.slice e)
  info : ∃ i z, P.info? e = some i ∧ i.zero = some z ∧ i.size = size ∧ i.bytes = bytes ∧ z.cells.size = size
  pos : 0 < size
/-- A slice's cells are known, and an append to it harms nothing below B: it is full, or lies there. -/
structure Cut (e : TypeId) (size B : Nat) (w : World) (r : Option Addr) (n d : Nat) (xs : List Value) : Prop where
  lay : Lay w r xs
  len : xs.length = n * size
  room : n ≤ d
  way : d = n ∨ w.ownsRow B e size (.slice r n d) n xs
theorem own_base {w : World} {B B' : Nat} {e : TypeId} {size : Nat} {v : Value} {n : Nat} {xs : List Value} (h : w.ownsRow B e size v n xs) (hB : B' ≤ B) : w.ownsRow B' e size v n xs := by
  refine ⟨h.1, h.2.imp id fun ⟨g, cap, cur, h1, h2, h3⟩ => ⟨g, cap, cur, h1, by omega, h3⟩⟩
theorem own_lay {w : World} {B : Nat} {e : TypeId} {size : Nat} {r : Option Addr} {n d : Nat} {xs : List Value} (h : w.ownsRow B e size (.slice r n d) n xs) : Lay w r xs := fun j u hu => by
  obtain ⟨hl, h | ⟨g, cap, cur, h1, h2, h3, h4, h5, h6, h7⟩⟩ := h
  · have hj := (List.getElem?_eq_some_iff.1 hu).1
    rw [hl, h.2, Nat.zero_mul] at hj; omega
  · injection h1 with h1
    refine ⟨g, 0, h1, Sits.lt (t := e) (cs := cur) h3, ?_⟩
    rw [Nat.zero_add, cell_of_row _ _ _ _ _ _ h3, ← hu, ← h7, List.getElem?_take_of_lt (by have := (List.getElem?_eq_some_iff.1 hu).1; omega)]
    simp
theorem run_append_cut {P : Program} {t e : TypeId} {size bytes : Nat} (T : RowT P t e size bytes) (ty : TypeId) {B : Nat} {w : World} {r : Option Addr} {n d : Nat} {xs : List Value} (h : Cut e size B w r n d xs) (hB : B ≤ w.heap.size)
    (q : Option Addr) (m c : Nat) (ys : List Value) (hy : ys.length = m * size) (hq : Lay w q ys) (h1 : ∀ u ∈ ys, u.oneCell' = true) (h63 : n + m ≤ maxLen) (hb : (n + m) * bytes ≤ 140737488355328) :
    ∃ r' d' w', (Builtin.append_ #[t, t] ty #[.slice r n d, .slice q m c]).run P w = .ok (.slice r' (n + m) d') w' ∧ Below B w w' ∧ Cut e size B w' r' (n + m) d' (xs ++ ys) := by
  obtain ⟨i, z, hi, hz, hs, hby, hzs⟩ := T.info
  have hlen : (xs ++ ys).length = (n + m) * size := by rw [List.length_append, h.len, hy, Nat.add_mul]
  rcases h.way with hd | hown
  · subst hd
    obtain ⟨r', d', w', hr, hbl, hl, hle, hw⟩ := run_append_full w t ty e i z size bytes T.row hi hz hs hby hzs T.pos r q d m d c xs ys h.len hy h.lay hq (by omega) (Nat.le_refl _) h1 h63 hb
    refine ⟨r', d', w', hr, hbl.mono hB, hl, hlen, hle, ?_⟩
    rcases hw with ⟨h1, h2, h3, h4⟩ | hw
    · left; omega
    · exact .inr (own_base hw hB)
  · rcases Nat.eq_zero_or_pos m with rfl | hm
    · have hy0 : ys = [] := List.eq_nil_of_length_eq_zero (by rw [hy, Nat.zero_mul])
      subst hy0
      have hs' : Src P i.size t (.slice q 0 c) 0 [] w := by
        cases q with
        | none => exact Src.ofNil w T.row c
        | some a => exact Src.ofSlice w T.row a 0 c [] (by simp) (by simp) (by simp)
      exact ⟨r, d, w, run_append_nothing w t t ty e i T.row hi r n d h.room _ hs', Below.refl _ _, by rw [List.append_nil]; exact h⟩
    · have hy0 : 0 < ys.length := by rw [hy]; exact Nat.mul_pos hm T.pos
      obtain ⟨g, o, rfl, _, _⟩ := hq 0 ys[0] (List.getElem?_eq_getElem hy0)
      obtain ⟨g', cap, w', hr, ho, hg, hat, hlt⟩ := run_append_lies (P := P) w t ty B e i z size bytes T.row hi hz hs hby hzs T.pos (.slice r n d) n xs hown ⟨g, o, none⟩ m c ys hy (fun j u hu => by
        obtain ⟨g', o', e', _, hcu⟩ := hq j u hu
        injection e' with e'; injection e' with e1 e2; subst e1 e2
        rw [Addr.add_lit]; exact hcu) h1 hm h63 hb hB _ rfl
      refine ⟨some ⟨g', 0, none⟩, cap, w', hr, (Below.refl B w).grown hg hB (fun k hk => ?_), own_lay ho, hlen, ?_, .inr ho⟩
      · obtain ⟨_, h | ⟨g2, cap2, cur, e1, h2, _⟩⟩ := hown
        · rw [h.1] at hk; simp [Value.ownBlock] at hk
        · rw [e1] at hk; simp [Value.ownBlock] at hk; omega
      · obtain ⟨_, h | ⟨g2, cap2, cur, e1, h2, h3, h4, _⟩⟩ := ho
        · omega
        · injection e1 with _ _ e3; omega
theorem wpList_append_cut {P : Program} {t e : TypeId} {size bytes : Nat} (T : RowT P t e size bytes) {ops : Array Oper} {rest : List Oper} {o : Oper} {a : Act} {Q : Exit → Act → World → Prop} (hgd : o.guard = none) (s x : Operand)
    (ho : o.op = .call { callee := .builtin .append, args := #[s, x], argTypes := #[t, t] }) {B : Nat} {w : World} {r : Option Addr} {n d : Nat} {xs : List Value} (hs : a.eval s = .slice r n d) (h : Cut e size B w r n d xs) (hB : B ≤ w.heap.size)
    (q : Option Addr) (m c : Nat) (ys : List Value) (hx : a.eval x = .slice q m c) (hy : ys.length = m * size) (hq : Lay w q ys) (h1 : ∀ u ∈ ys, u.oneCell' = true) (h63 : n + m ≤ maxLen) (hb : (n + m) * bytes ≤ 140737488355328)
    (hk : ∀ r' d' w', Below B w w' → Cut e size B w' r' (n + m) d' (xs ++ ys) → wpList P ops Q rest (a.put o.dst (.slice r' (n + m) d')) w') : wpList P ops Q (o :: rest) a w :=
  wpList_plain hgd fun _ hK => by
    obtain ⟨r', d', w', hr, hbl, hc⟩ := run_append_cut T o.type h hB q m c ys hy hq h1 h63 hb
    unfold Oper.wp execOp
    simp only [ho, resolve, invoke, builtin, Sem.run_bind, Sem.run_pure, Result.andThen_ok, List.map_toArray, List.map_cons, List.map_nil, hs, hx, hr]
    exact hK _ _ (hk r' d' w' hbl hc)
theorem rowT_of {P : Program} {t e : TypeId} {z : Value} {size bytes : Nat} (h : P.underlying t = some (.slice e)) (hi : (P.info? e).map (fun i => (i.zero, i.size, i.bytes)) = some (some z, size, bytes)) (hz : z.cells.size = size) (hp : 0 < size) : RowT P t e size bytes := by
  refine ⟨h, ?_, hp⟩
  cases hq : P.info? e with
  | none => rw [hq] at hi; cases hi
  | some i =>
    rw [hq] at hi
    simp only [Option.map_some, Option.some.injEq, Prod.mk.injEq] at hi
    exact ⟨i, z, rfl, hi.1, hi.2.1, hi.2.2, hz⟩
abbrev zeroIt : Array Value := #[.int .i64 0, .complex .f64 0 0, .int .u64 0, .int .i64 0, .int .i64 0, .int .i64 0, .int .i64 0, .int .i64 0, .int .i64 0, .int .i64 0, .int .i64 0, .bool false, .int .i64 0]
theorem rowIt : RowT Try.prog 25 52 13 112 := rowT_of (z := .agg zeroIt) Try.underlying25 (by kernel_rfl) rfl (by decide)
theorem its_one (l : List It) : ∀ u ∈ cellsOf itL l, u.oneCell' = true := fun u hu => by
  unfold cellsOf at hu
  obtain ⟨x, _, hx⟩ := List.mem_flatMap.1 hu
  have := it_one x
  rw [Array.all_eq_true_iff_forall_mem] at this
  exact this u (by unfold itL at hx; simpa using hx)

/-! ### Slices of slices -/
theorem slice_upto (g o n c i : Nat) (h : i ≤ c) (w : World) : (Instr.slice 25 (.slice (some ⟨g, o, none⟩) n c) none (some (.int .i64 (i : Nat))) (some (.int .i64 (i : Nat)))).run Try.prog w = .ok (.slice (some ⟨g, o, none⟩) i i) w := by
  have h1 : (i : Int) ≤ (c : Int) := by omega
  simp only [Instr.slice, Sem.run_bind, run_underlying Try.underlying25, Result.andThen, Instr.sliceBounds, Try.sizeOf52]
  simp [run_sliceBound_if, h1, Addr.add_lit]
theorem slice_from (g o n c j : Nat) (h : j ≤ n) (hn : n ≤ c) : ∃ o', (∀ w, (Instr.slice 25 (.slice (some ⟨g, o, none⟩) n c) (some (.int .i64 (j : Nat))) none none).run Try.prog w = .ok (.slice (some ⟨g, o', none⟩) (n - j) (c - j)) w) ∧ (j < n → o' = o + j * 13) := by
  have h1 : (j : Int) ≤ (n : Int) := by omega
  refine ⟨if c = j then o else o + j * 13, fun w => ?_, fun hj => by rw [if_neg (by omega)]⟩
  simp only [Instr.slice, Sem.run_bind, run_underlying Try.underlying25, Result.andThen, Instr.sliceBounds, Try.sizeOf52]
  simp [run_sliceBound_if, h1, Addr.add_lit]
  by_cases hc : c = j
  · simp [hc]
  · simp [hc]
/-! ### with -/
structure WithAt (w : World) (p : Nat → Option Addr) (c : Nat → Nat) (m : Mm) (W : World) : Prop where
  at5 : Sits W w.heap.size 28 (memCells p c m)
  at10 : Sits W (w.heap.size + 1) 28 #[.slice none 0 0, .slice none 0 0, .slice none 0 0, .slice none 0 0, .int .i64 0]
  low : Below w.heap.size w W
theorem WithAt.grown {w W W' : World} {p : Nat → Option Addr} {c : Nat → Nat} {m : Mm} (h : WithAt w p c m W) {B : Nat} (hb : Below B W W') (hB : w.heap.size + 2 ≤ B) : WithAt w p c m W' :=
  ⟨h.at5.below hb (by omega), h.at10.below hb (by omega), h.low.trans (hb.mono (by omega))⟩
def updP (p : Nat → Option Addr) (k : Nat) (r : Option Addr) (i : Nat) : Option Addr := if i = k then r else p i
def updC (c : Nat → Nat) (k d : Nat) (i : Nat) : Nat := if i = k then d else c i
theorem mem_upd (p : Nat → Option Addr) (c : Nat → Nat) (m : Mm) (k : Nat) (hk : k < 4) (r : Option Addr) (d : Nat) (l : List It) :
    (memCells p c m).setIfInBounds k (.slice r l.length d) = memCells (updP p k r) (updC c k d) (put m k l) := by
  rcases (by omega : k = 0 ∨ k = 1 ∨ k = 2 ∨ k = 3) with rfl | rfl | rfl | rfl <;> simp [memCells, updP, updC, put]
theorem hold_upd {w w' : World} {p : Nat → Option Addr} {c : Nat → Nat} {m : Mm} (h : Hold w p c m) {k : Nat} {r : Option Addr} {d : Nat} {l : List It} (hb : Below w.heap.size w w') (hl : Its w' r l) (hd : l.length ≤ d) : Hold w' (updP p k r) (updC c k d) (put m k l) := by
  refine ⟨fun i hi => ?_, fun i hi => ?_⟩
  · simp only [updP, put_row]
    by_cases e : i = k
    · rw [if_pos e, if_pos e]; exact hl
    · rw [if_neg e, if_neg e]; exact (h.row i hi).below hb
  · simp only [updC, put_row]
    by_cases e : i = k
    · rw [if_pos e, if_pos e]; exact hd
    · rw [if_neg e, if_neg e]; exact h.cap i hi
/-- A row of items lies in no block of a memory's own cells. -/
theorem its_far {W : World} {g : Nat} {t : TypeId} {cs : Array Value} {r : Option Addr} {l : List It} (hs : Sits W g t cs) (hc : ∀ u ∈ cs.toList, ∀ k x y, u ≠ .complex k x y) (h : Its W r l) : ∀ n x, l[n]? = some x → ∃ g' o', r = some ⟨g', o', none⟩ ∧ g' ≠ g ∧ g' < W.heap.size ∧ ∀ i, i < 13 → W.cell? ⟨g', o' + n * 13 + i, none⟩ = (itCells x)[i]? := fun n x hx => by
  obtain ⟨g', o', e, hg, hq⟩ := h n x hx
  refine ⟨g', o', e, ?_, hg, hq⟩
  rintro rfl
  have h1 := hq 1 (by decide)
  rw [hs.cell] at h1
  exact hc _ (by simpa using Array.mem_of_getElem? h1) _ _ _ rfl
theorem row_low {B : Nat} {w W : World} (h : Below B w W) {g : Nat} (hg : B ≤ g) (cs : Array Value) : Below B w (W.setRow g cs) :=
  ⟨h.os, h.tape, h.output, by simpa [World.setRow] using h.size, fun b hb => (setRow_other W _ _ _ (by omega)).trans (h.block b hb)⟩
theorem its_row {W : World} {g : Nat} {t : TypeId} {cs : Array Value} {r : Option Addr} {l : List It} (h : Its W r l) (hs : Sits W g t cs) (hc : ∀ u ∈ cs.toList, ∀ k x y, u ≠ .complex k x y) (cs' : Array Value) : Its (W.setRow g cs') r l := fun n x hx => by
  obtain ⟨g', o', e, hne, hg, hq⟩ := its_far hs hc h n x hx
  exact ⟨g', o', e, by simpa [World.setRow] using hg, fun i hi => (World.cell?_of_block (a := ⟨g', o' + n * 13 + i, none⟩) (setRow_other W g g' cs' hne)).trans (hq i hi)⟩
abbrev zeroMem : Array Value := #[.slice none 0 0, .slice none 0 0, .slice none 0 0, .slice none 0 0, .int .i64 0]
theorem zeroMem_plain : ∀ u ∈ zeroMem.toList, ∀ k x y, u ≠ .complex k x y := by simp
theorem mem_plain (p : Nat → Option Addr) (c : Nat → Nat) (m : Mm) : ∀ u ∈ (memCells p c m).toList, ∀ k x y, u ≠ .complex k x y := by simp
theorem hold_row {W : World} {p : Nat → Option Addr} {c : Nat → Nat} {m : Mm} {g : Nat} (h : Hold W p c m) (hs : Sits W g 28 zeroMem) (cs' : Array Value) : Hold (W.setRow g cs') p c m :=
  ⟨fun i hi => its_row (h.row i hi) hs zeroMem_plain cs', h.cap⟩
/-- A memory came back, with an answer. -/
def GivesM (m : Mm) (w : World) (e : Ending) (w' : World) : Prop := ∃ p c, e = .returned (memV p c m) ∧ Hold w' p c m ∧ Below w.heap.size w w'
set_option maxRecDepth 100000 in
set_option maxHeartbeats 2000000 in
theorem with_any (p : Nat → Option Addr) (c : Nat → Nat) (m : Mm) (k i j : Nat) (hk : k < 4) (hi : i ≤ (m.row k).length) (hj : j ≤ (m.row k).length) (hne : 1 ≤ (m.row k).length) (hfew : (m.row k).length ≤ 40)
    (q : Option Addr) (cq : Nat) (xs : List It) (hxs : xs.length ≤ 40) (w : World) (hH : Hold w p c m) (hX : Its w q xs) :
    Calls Try.prog 33 #[memV p c m, .int .i64 (k : Nat), .int .i64 (i : Nat), .int .i64 (j : Nat), .slice q xs.length cq] w (GivesM (withF m k i j xs) w) := by
  have H0 : Hid (WithAt w p c m ((w.alloc (.cells (memCells p c m) 28)).alloc (.cells #[.slice none 0 0, .slice none 0 0, .slice none 0 0, .slice none 0 0, .int .i64 0] 28))) := Lib.hid
    ⟨(Sits.new _ _ _).alloc _, Sits.made (by simp) _ _, two_low _ _ _⟩
  have HZ : Hid (((w.alloc (.cells (memCells p c m) 28)).alloc (.cells #[.slice none 0 0, .slice none 0 0, .slice none 0 0, .slice none 0 0, .int .i64 0] 28)).heap.size = w.heap.size + 2) := Lib.hid (by simp)
  have HH := Lib.hid hH
  have HX := Lib.hid hX
  obtain ⟨g, o, hp, _, _⟩ := (hH.row k hk).at (List.getElem?_eq_getElem (by omega : 0 < (m.row k).length))
  have hcap := hH.cap k hk
  have HP := Lib.hid hp
  have HI := Lib.hid hi
  have HJ := Lib.hid hj
  have HK := Lib.hid hk
  have HC := Lib.hid hcap
  have hs1 := slice_upto g o (m.row k).length (c k) i (by omega)
  obtain ⟨o', hs2, ho'⟩ := slice_from g o (m.row k).length (c k) j hj hcap
  have HO := Lib.hid ho'
  have HF := Lib.hid hfew
  have HN := Lib.hid hxs
  have j4 : (k : Int) < 4 := by omega
  have j0 : (0 : Int) ≤ (k : Int) := by omega
  clear hH hX hi hj ho' hk hcap hp
  go_enter Try.func33, Try.ntmps33
  go_upto_region 1 with (fail)
  generalize ((w.alloc (.cells (memCells p c m) 28)).alloc (.cells #[.slice none 0 0, .slice none 0 0, .slice none 0 0, .slice none 0 0, .int .i64 0] 28)) = w0 at H0 HZ ⊢
  have bk := mem_at H0.out.at5 k HK.out
  rw [HP.out] at bk
  have lb := H0.out.at5.lt
  go_upto_region 2 with (fail)
  refine wp_flowT [16, 17, 18, 19, 20, 21, 22, 23, 24, 25, 26, 27, 28] [eqV (.int .i64 (k : Nat)), eqV (.slice (some ⟨g, o, none⟩) (m.row k).length (c k)), eqV (.int .i64 (i : Nat)), eqV (.int .i64 (i : Nat)), eqV (.slice (some ⟨g, o, none⟩) i i), eqV (.slice q xs.length cq), fun _ _ => True, eqV (.slice (some ⟨g, o, none⟩) (m.row k).length (c k)), eqV (.int .i64 (j : Nat)), eqV (.slice (some ⟨g, o', none⟩) ((m.row k).length - j) (c k - j)), fun _ _ => True, eqV (.pointer (some ⟨w.heap.size, 0, none⟩)), eqV (.pointer (some ⟨w.heap.size, k, none⟩))] 6 10
    (fun u W => ∃ r d, u = .slice r (i + xs.length) d ∧ Cut 52 13 w0.heap.size W r (i + xs.length) d (cellsOf itL ((m.row k).take i ++ xs)))
    (fun u W => ∃ r d, u = .slice r (i + xs.length + ((m.row k).length - j)) d ∧ Cut 52 13 w0.heap.size W r (i + xs.length + ((m.row k).length - j)) d (cellsOf itL ((m.row k).take i ++ xs ++ (m.row k).drop j)))
    (by decide) (by decide) (by decide) (by kernel_rfl) (by kernel_rfl) (by kernel_rfl) (by kernel_rfl) (by rfl)
    (by simp only [List.mem_cons, List.not_mem_nil, or_false, forall_eq_or_imp, forall_eq]; refine ⟨?_, ?_, ?_, ?_, ?_, ?_, ?_, ?_, ?_, ?_, ?_, ?_, ?_⟩ <;> (first | exact eqV_monoR _ | exact fun _ _ _ _ _ => trivial)) (by kernel_rfl) ?_ ?_ ?_ ?_
  · intro i' op hi' hia hib ho A W hW hk he
    simp only [List.length_cons, List.length_nil, Nat.zero_add, Nat.reduceAdd] at hi'
    have t1 : A.tmps[1]?.getD undef = .int .i64 (k : Nat) := hk 1 (by rfl)
    have t2 : A.tmps[2]?.getD undef = .int .i64 (i : Nat) := hk 2 (by rfl)
    have t3 : A.tmps[3]?.getD undef = .int .i64 (j : Nat) := hk 3 (by rfl)
    have t4 : A.tmps[4]?.getD undef = .slice q xs.length cq := hk 4 (by rfl)
    have t5 : A.tmps[5]?.getD undef = .pointer (some ⟨w.heap.size, 0, none⟩) := hk 5 (by rfl)
    have t11 : A.tmps[11]?.getD undef = .slice (some ⟨g, o, none⟩) (m.row k).length (c k) := hk 11 (by rfl)
    obtain rfl | rfl | rfl | rfl | rfl | rfl | rfl | rfl | rfl | rfl | rfl : i' = 0 ∨ i' = 1 ∨ i' = 2 ∨ i' = 3 ∨ i' = 4 ∨ i' = 5 ∨ i' = 7 ∨ i' = 8 ∨ i' = 9 ∨ i' = 11 ∨ i' = 12 := by omega
    · injection ho with ho; subst ho
      refine ⟨wanted_free rfl, _, ?_, rfl⟩
      go_simp
    · injection ho with ho; subst ho
      refine ⟨wanted_free rfl, _, ?_, rfl⟩
      go_simp
    · injection ho with ho; subst ho
      refine ⟨wanted_free rfl, _, ?_, rfl⟩
      go_simp
    · injection ho with ho; subst ho
      refine ⟨wanted_free rfl, _, ?_, rfl⟩
      go_simp
    · injection ho with ho; subst ho
      refine ⟨wanted_free rfl, _, ?_, rfl⟩
      have t17 : A.tmps[17]?.getD undef = .slice (some ⟨g, o, none⟩) (m.row k).length (c k) := he 1 (by decide) (by decide) (by decide) (by kernel_rfl)
      have t18 : A.tmps[18]?.getD undef = .int .i64 (i : Nat) := he 2 (by decide) (by decide) (by decide) (by kernel_rfl)
      have t19 : A.tmps[19]?.getD undef = .int .i64 (i : Nat) := he 3 (by decide) (by decide) (by decide) (by kernel_rfl)
      go_simp
    · injection ho with ho; subst ho
      refine ⟨wanted_free rfl, _, ?_, rfl⟩
      go_simp
    · injection ho with ho; subst ho
      refine ⟨wanted_free rfl, _, ?_, rfl⟩
      go_simp
    · injection ho with ho; subst ho
      refine ⟨wanted_free rfl, _, ?_, rfl⟩
      go_simp
    · injection ho with ho; subst ho
      refine ⟨wanted_free rfl, _, ?_, rfl⟩
      have t23 : A.tmps[23]?.getD undef = .slice (some ⟨g, o, none⟩) (m.row k).length (c k) := he 7 (by decide) (by decide) (by decide) (by kernel_rfl)
      have t24 : A.tmps[24]?.getD undef = .int .i64 (j : Nat) := he 8 (by decide) (by decide) (by decide) (by kernel_rfl)
      go_simp
    · injection ho with ho; subst ho
      refine ⟨wanted_free rfl, _, ?_, rfl⟩
      go_simp
    · injection ho with ho; subst ho
      refine ⟨wanted_free rfl, _, ?_, rfl⟩
      have t27 : A.tmps[27]?.getD undef = .pointer (some ⟨w.heap.size, 0, none⟩) := he 11 (by decide) (by decide) (by decide) (by kernel_rfl)
      have t16 : A.tmps[16]?.getD undef = .int .i64 (k : Nat) := he 0 (by decide) (by decide) (by decide) (by kernel_rfl)
      go_simp
  · intro op ho A W hW hk he
    injection ho with ho; subst ho
    refine ⟨wanted_free rfl, ?_⟩
    have t20 : A.tmps[20]?.getD undef = .slice (some ⟨g, o, none⟩) i i := he 4 (by decide) (by decide) (by decide) (by kernel_rfl)
    have t21 : A.tmps[21]?.getD undef = .slice q xs.length cq := he 5 (by decide) (by decide) (by decide) (by kernel_rfl)
    have hwW : Below w.heap.size w W := H0.out.low.trans (hW.mono (by rw [HZ.out]; omega))
    have hL : Lay W (some ⟨g, o, none⟩) (cellsOf itL ((m.row k).take i)) := by
      have := (((HH.out.row k HK.out).below hwW).upto i).lay
      rwa [HP.out] at this
    have htk : ((m.row k).take i).length = i := by rw [List.length_take]; have := HI.out; omega
    obtain ⟨r', d', w', hr, hb, hc⟩ := run_append_cut rowIt 25 (B := w0.heap.size) (w := W) (r := some ⟨g, o, none⟩) (n := i) (d := i) (xs := cellsOf itL ((m.row k).take i)) ⟨hL, by rw [cells_len itL_len, htk], Nat.le_refl _, .inl rfl⟩ hW.size q xs.length cq (cellsOf itL xs) (cells_len itL_len xs) (HX.out.below hwW).lay (its_one xs) (by unfold maxLen; have := HI.out; omega) (by have := HI.out; omega)
    have e1 : A.eval (.tmp 20) = .slice (some ⟨g, o, none⟩) i i := by simpa [Act.eval] using t20
    have e2 : A.eval (.tmp 21) = .slice q xs.length cq := by simpa [Act.eval] using t21
    refine ⟨_, w', ?_, ⟨r', d', rfl, by rw [cells_append]; exact hc⟩, hb⟩
    simp only [execOp, resolve, invoke, builtin, Sem.run_bind, Sem.run_pure, Result.andThen_ok, List.map_toArray, List.map_cons, List.map_nil, e1, e2, hr]
  · intro op ho A W hW hk he hJa
    injection ho with ho; subst ho
    refine ⟨wanted_free rfl, ?_⟩
    obtain ⟨r, d, t22, hcut⟩ := hJa
    have t22 : A.tmps[22]?.getD undef = .slice r (i + xs.length) d := t22
    have t25 : A.tmps[25]?.getD undef = .slice (some ⟨g, o', none⟩) ((m.row k).length - j) (c k - j) := he 9 (by decide) (by decide) (by decide) (by kernel_rfl)
    have hwW : Below w.heap.size w W := H0.out.low.trans (hW.mono (by rw [HZ.out]; omega))
    have hL : Lay W (some ⟨g, o', none⟩) (cellsOf itL ((m.row k).drop j)) := by
      by_cases hj : j < (m.row k).length
      · have h1 := (HH.out.row k HK.out).below hwW
        rw [HP.out] at h1
        rw [HO.out hj]
        exact (h1.from j).lay
      · rw [List.drop_eq_nil_of_le (by omega)]
        exact (Its.nil _ _).lay
    have hdl : ((m.row k).drop j).length = (m.row k).length - j := List.length_drop
    obtain ⟨r', d', w', hr, hb, hc⟩ := run_append_cut rowIt 25 hcut hW.size (some ⟨g, o', none⟩) ((m.row k).length - j) (c k - j) (cellsOf itL ((m.row k).drop j)) (by rw [cells_len itL_len, hdl]) hL (its_one _) (by unfold maxLen; have := HI.out; omega) (by have := HI.out; omega)
    have e1 : A.eval (.tmp 22) = .slice r (i + xs.length) d := by simpa [Act.eval] using t22
    have e2 : A.eval (.tmp 25) = .slice (some ⟨g, o', none⟩) ((m.row k).length - j) (c k - j) := by simpa [Act.eval] using t25
    refine ⟨_, w', ?_, ⟨r', d', rfl, by rw [cells_append]; exact hc⟩, hb⟩
    simp only [execOp, resolve, invoke, builtin, Sem.run_bind, Sem.run_pure, Result.andThen_ok, List.map_toArray, List.map_cons, List.map_nil, e1, e2, hr]
  · intro ys W hW hV hJb
    obtain ⟨r, d, e10, hcut⟩ := hJb
    have e12 : ys 12 = .pointer (some ⟨w.heap.size, k, none⟩) := hV 12 (by simp) (by decide) (by decide)
    have hlen : ((m.row k).take i ++ xs ++ (m.row k).drop j).length = i + xs.length + ((m.row k).length - j) := by
      rw [List.length_append, List.length_append, List.length_take, List.length_drop]; have := HI.out; omega
    have hI := hcut.lay.its
    have hroom := hcut.room
    have hwf : withF m k i j xs = put m k ((m.row k).take i ++ xs ++ (m.row k).drop j) := rfl
    have HWF := Lib.hid hwf
    rw [← hlen] at hroom e10
    clear hwf hlen hcut
    generalize (m.row k).take i ++ xs ++ (m.row k).drop j = l at hI hroom e10 HWF
    have HI' := Lib.hid hI
    have HW := Lib.hid (H0.out.grown hW (by rw [HZ.out]; omega))
    have HR := Lib.hid hroom
    have HS : Hid (Sits (W.setCell ⟨w.heap.size, k, none⟩ (.slice r l.length d)) w.heap.size 28 (memCells (updP p k r) (updC c k d) (put m k l))) := Lib.hid (by
      have := HW.out.at5.put k (.slice r l.length d)
      rwa [mem_upd p c m k HK.out] at this)
    have HT : Hid (Sits (W.setCell ⟨w.heap.size, k, none⟩ (.slice r l.length d)) (w.heap.size + 1) 28 #[.slice none 0 0, .slice none 0 0, .slice none 0 0, .slice none 0 0, .int .i64 0]) := Lib.hid (HW.out.at10.far (by simp) _)
    have HF2 : Hid (Below w.heap.size w (W.setCell ⟨w.heap.size, k, none⟩ (.slice r l.length d))) := Lib.hid (HW.out.low.setCell (p := ⟨w.heap.size, k, none⟩) (Nat.le_refl _) _)
    have HHO : Hid (Hold (W.setCell ⟨w.heap.size, k, none⟩ (.slice r l.length d)) (updP p k r) (updC c k d) (put m k l)) := Lib.hid (by
      refine hold_upd HH.out HF2.out (fun n x hx => ?_) hroom
      obtain ⟨g', o', e, hg, hc⟩ := hI n x hx
      have hne : g' ≠ w.heap.size := by
        rintro rfl
        have h1 := hc 1 (by decide)
        rw [HW.out.at5.cell] at h1
        have h2 := Array.mem_of_getElem? h1
        simp [memCells] at h2
      exact ⟨g', o', e, by simpa [World.setCell] using hg, fun t ht => (World.cell?_of_block (a := ⟨g', o' + n * 13 + t, none⟩) (Below.heap_setCell W ⟨w.heap.size, k, none⟩ _ _ hne)).trans (hc t ht)⟩)
    have c5 : W.cell? ⟨w.heap.size, k, none⟩ = some (.slice (p k) (m.row k).length (c k)) := mem_at HW.out.at5 k HK.out
    have f5 := HW.out.at5.free k
    have l5 := HW.out.at5.lt
    simp only [List.length_cons, List.length_nil, Nat.zero_add, Nat.reduceAdd, List.drop_succ_cons, List.drop_zero, putL, Act.put, List.setIfInBounds_toArray, List.set_cons_zero, List.set_cons_succ, e10, e12]
    clear hV hW hI hroom
    go_upto_region 3 with (fail)
    generalize W.setCell ⟨w.heap.size, k, none⟩ (.slice r l.length d) = W2 at HS HT HF2 HHO ⊢
    clear c5 f5 l5
    generalize updP p k r = p2 at HS HHO
    generalize updC c k d = c2 at HS HHO
    generalize put m k l = m2 at HS HHO HWF
    have b0 : W2.cell? ⟨w.heap.size, 0, none⟩ = some (.slice (p2 0) (m2.row 0).length (c2 0)) := HS.out.cell 0
    have b1 : W2.cell? ⟨w.heap.size, 1, none⟩ = some (.slice (p2 1) (m2.row 1).length (c2 1)) := HS.out.cell 1
    have b2 : W2.cell? ⟨w.heap.size, 2, none⟩ = some (.slice (p2 2) (m2.row 2).length (c2 2)) := HS.out.cell 2
    have b3 : W2.cell? ⟨w.heap.size, 3, none⟩ = some (.slice (p2 3) (m2.row 3).length (c2 3)) := HS.out.cell 3
    have b4 : W2.cell? ⟨w.heap.size, 4, none⟩ = some (.int .i64 (m2.n : Nat)) := HS.out.cell 4
    have l5 := HS.out.lt
    go_wp2_with (refine wpList_store_row rfl 28 _ _ rfl (w.heap.size + 1) (memCells p2 c2 m2) rfl rfl 28 _ HT.out memSize rfl (mem_one _ _ _) ?_)
    have s10 : Sits (W2.setRow (w.heap.size + 1) (memCells p2 c2 m2)) (w.heap.size + 1) 28 (memCells p2 c2 m2) := setRow_heap W2 _ _ _ _ _ HT.out
    have hlow : Below w.heap.size w (W2.setRow (w.heap.size + 1) (memCells p2 c2 m2)) := row_low HF2.out (by omega) _
    have HG : Hid (GivesM m2 w (.returned (memV p2 c2 m2)) (W2.setRow (w.heap.size + 1) (memCells p2 c2 m2))) := Lib.hid ⟨p2, c2, rfl, hold_row HHO.out HT.out _, hlow⟩
    generalize W2.setRow (w.heap.size + 1) (memCells p2 c2 m2) = W3 at s10 HG ⊢
    clear b0 b1 b2 b3 b4 hlow
    have b0 : W3.cell? ⟨w.heap.size + 1, 0, none⟩ = some (.slice (p2 0) (m2.row 0).length (c2 0)) := s10.cell 0
    have b1 : W3.cell? ⟨w.heap.size + 1, 1, none⟩ = some (.slice (p2 1) (m2.row 1).length (c2 1)) := s10.cell 1
    have b2 : W3.cell? ⟨w.heap.size + 1, 2, none⟩ = some (.slice (p2 2) (m2.row 2).length (c2 2)) := s10.cell 2
    have b3 : W3.cell? ⟨w.heap.size + 1, 3, none⟩ = some (.slice (p2 3) (m2.row 3).length (c2 3)) := s10.cell 3
    have b4 : W3.cell? ⟨w.heap.size + 1, 4, none⟩ = some (.int .i64 (m2.n : Nat)) := s10.cell 4
    clear s10
    go_wp2_with fail
    exact bodyPost_ret (v := memV p2 c2 m2) (by simp [results, Try.results33, go_sem, b0, b1, b2, b3, b4]) rfl (by rw [HWF.out]; exact HG.out)
end Go.Proofs.Ytgkgpehjedmejaa.Mmr
