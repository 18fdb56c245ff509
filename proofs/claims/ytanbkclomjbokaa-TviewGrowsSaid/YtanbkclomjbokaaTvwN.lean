/- Layer 13 (tview): the document's Fence. -/
import Derived.Test.YtanbkclomjbokaaTvwH
import Derived.Test.YtanbkclomjbokaaTvwM
namespace Go.Proofs.Ytanbkclomjbokaa.Tvw
open Go.RowKit Go.Proofs.Ytanbkclomjbokaa.Mem Go.Proofs.Ytanbkclomjbokaa.Flow Go.Proofs.Ytanbkclomjbokaa.Vew
structure FnD (w : World) (V : Nat → Nat → Int) (S : Nat → Int) (r : Array Value) (q : Array Value) (W : World) : Prop where
  at3 : Sits W (w.heap.size) 33 (vsC V)
  at5 : Sits W (w.heap.size + 1) 24 (arrC S)
  at6 : Sits W (w.heap.size + 1 + 1) 33 r
  at7 : Sits W (w.heap.size + 1 + 1 + 1) 24 q
  low : Below w.heap.size w W
  grow : w.heap.size + 4 ≤ W.heap.size
section
variable {w W W' : World} {V : Nat → Nat → Int} {S : Nat → Int} {r : Array Value} {q : Array Value}
theorem FnD.grown (h : FnD w V S r q W) (hb : Below W.heap.size W W') : FnD w V S r q W' :=
  ⟨h.at3.below hb h.at3.lt, h.at5.below hb h.at5.lt, h.at6.below hb h.at6.lt, h.at7.below hb h.at7.lt, h.low.trans (hb.mono h.low.size), by have := h.grow; have := hb.size; omega⟩
theorem FnD.setK (h : FnD w V S r q W) (k o : Nat) (f : Nat → Int) (ho : o = 8 * k) : FnD w (setV V k f) S r q (W.setCells (w.heap.size) o (vwC f).toList) :=
  ⟨vs_set h.at3 k o f ho, (setCells_other _ _ _ _ _ (by omega)).trans h.at5, (setCells_other _ _ _ _ _ (by omega)).trans h.at6, (setCells_other _ _ _ _ _ (by omega)).trans h.at7, h.low.trans (below_cells (by omega)), by rw [setCells_size]; exact h.grow⟩
theorem FnD.out (h : FnD w V S r q W) (u : Array Value) : FnD w V S u q (W.setRow (w.heap.size + 1 + 1) u) :=
  ⟨(setRow_other _ _ _ _ (by omega)).trans h.at3, (setRow_other _ _ _ _ (by omega)).trans h.at5, setRow_heap _ _ _ _ _ _ h.at6, (setRow_other _ _ _ _ (by omega)).trans h.at7, h.low.trans (below_row (by omega)), by simpa [World.setRow] using h.grow⟩
theorem FnD.out2 (h : FnD w V S r q W) (u : Array Value) : FnD w V S r u (W.setRow (w.heap.size + 1 + 1 + 1) u) :=
  ⟨(setRow_other _ _ _ _ (by omega)).trans h.at3, (setRow_other _ _ _ _ (by omega)).trans h.at5, (setRow_other _ _ _ _ (by omega)).trans h.at6, setRow_heap _ _ _ _ _ _ h.at7, h.low.trans (below_row (by omega)), by simpa [World.setRow] using h.grow⟩
theorem FnD.cur (h : FnD w V S r q W) (k : Nat) (hk : k < 8) : W.cell? ⟨w.heap.size, k, none⟩ = some (.int .i64 (V 0 k)) := by
  rw [h.at3.cell]; exact vsC_at V 0 k k (by omega) hk (by omega)
end
theorem arrC_put (S : Nat → Int) (k : Nat) (x : Int) (hk : k < 4) : (arrC S).setIfInBounds k (.int .i64 x) = arrC (put1 S k x) := by
  rcases (by omega : k = 0 ∨ k = 1 ∨ k = 2 ∨ k = 3) with rfl | rfl | rfl | rfl <;> rfl
theorem arrC_at (S : Nat → Int) (k : Nat) (hk : k < 4) : (arrC S)[k]? = some (.int .i64 (S k)) := at4 S k hk
theorem arrC_congr {S S' : Nat → Int} (h : ∀ i, i < 4 → S i = S' i) : arrC S = arrC S' := by
  unfold arrC; rw [h 0 (by omega), h 1 (by omega), h 2 (by omega), h 3 (by omega)]
section
variable {w W W' : World} {V : Nat → Nat → Int} {S : Nat → Int} {r q : Array Value}
theorem FnD.say (h : FnD w V S r q W) (k : Nat) (x : Int) (hk : k < 4) : FnD w V (put1 S k x) r q (W.setCell ⟨w.heap.size + 1, k, none⟩ (.int .i64 x)) :=
  ⟨h.at3.far (by simp) _, by rw [← arrC_put S k x hk]; exact h.at5.put k _, h.at6.far (by simp) _, h.at7.far (by simp; omega) _, h.low.trans ⟨rfl, rfl, rfl, by simp [World.setCell], fun b hb => Below.heap_setCell _ _ _ _ (by simp; omega)⟩, by simpa [World.setCell] using h.grow⟩
theorem FnD.same {S' : Nat → Int} (h : FnD w V S r q W) (e : ∀ i, i < 4 → S i = S' i) : FnD w V S' r q W := ⟨h.at3, by rw [← arrC_congr e]; exact h.at5, h.at6, h.at7, h.low, h.grow⟩
theorem FnD.views {V' : Nat → Nat → Int} (h : FnD w V S r q W) (e : vsC V = vsC V') : FnD w V' S r q W := ⟨by rw [← e]; exact h.at3, h.at5, h.at6, h.at7, h.low, h.grow⟩
theorem fnD_new (w : World) (V : Nat → Nat → Int) (S : Nat → Int) : FnD w V S zero48 zero4 ((((w.alloc (.cells (vsC V) 33)).alloc (.cells (arrC S) 24)).alloc (.cells zero48 33)).alloc (.cells zero4 24)) :=
  ⟨(((Sits.new _ _ _).alloc _).alloc _).alloc _, ((Sits.made (by simp) _ _).alloc _).alloc _, (Sits.made (by simp) _ _).alloc _, Sits.made (by simp) _ _,
    below_more (below3 _ _ _ _) (by simp; omega) _, by simp⟩
structure FnDB (w : World) (V : Nat → Nat → Int) (S : Nat → Int) (r q : Array Value) (ga : Nat) (a : Nat → Int) (W : World) : Prop where
  at' : FnD w V S r q W
  ba : Sits W ga 30 (vwC a)
  la : w.heap.size + 4 ≤ ga
theorem FnDB.grown {ga : Nat} {a : Nat → Int} (h : FnDB w V S r q ga a W) (hb : Below W.heap.size W W') : FnDB w V S r q ga a W' := ⟨h.at'.grown hb, h.ba.below hb h.ba.lt, h.la⟩
theorem FnDB.setK {ga : Nat} {a : Nat → Int} (h : FnDB w V S r q ga a W) (k o : Nat) (f : Nat → Int) (ho : o = 8 * k) : FnDB w (setV V k f) S r q ga a (W.setCells w.heap.size o (vwC f).toList) :=
  ⟨h.at'.setK k o f ho, (setCells_other _ _ _ _ _ (by have := h.la; omega)).trans h.ba, h.la⟩
theorem FnD.boxed (h : FnD w V S r q W) (a : Nat → Int) : FnDB w V S r q W.heap.size a ((W.alloc (.cells zero8 30)).setRow W.heap.size (vwC a)) := by
  have g := h.grow
  have h' := h.grown ((Below.refl _ W).alloc (Nat.le_refl _) (.cells zero8 30))
  exact ⟨⟨(setRow_other _ _ _ _ (by omega)).trans h'.at3, (setRow_other _ _ _ _ (by omega)).trans h'.at5, (setRow_other _ _ _ _ (by omega)).trans h'.at6, (setRow_other _ _ _ _ (by omega)).trans h'.at7, h'.low.trans (below_row (by omega)), by simpa [World.setRow] using h'.grow⟩, setRow_heap _ _ _ _ _ _ (Sits.new _ _ _), g⟩
end
theorem dresult_sab {fn : Func} {p p2 q : Tmp} (h : fn.results = #[.cell p 33, .cell p2 24, .tmp q]) {T : Array Value} {W : World} {g g2 : Nat} {V : Nat → Nat → Int} {S : Nat → Int} {b : Bool} (hp : T.getD p undef = .pointer (some ⟨g, 0, none⟩)) (hp2 : T.getD p2 undef = .pointer (some ⟨g2, 0, none⟩))
    (hq : T.getD q undef = .bool b) (hs : Sits W g 33 (vsC V)) (hs2 : Sits W g2 24 (arrC S)) : (results fn T).run Try.prog W = .ok (.tuple #[.agg (vsC V), arr S, .bool b]) W := by
  have hl := run_loadVar_row (P := Try.prog) W g 33 33 (vsC V) (0, 0) _ hs Try.underlying33 rfl (by rw [vsC_size]; exact rsSize)
  have hl2 := run_loadVar_row (P := Try.prog) W g2 24 24 (arrC S) (0, 0) _ hs2 Try.underlying24 rfl arrSize
  have hp' : T[p]?.getD undef = .pointer (some ⟨g, 0, none⟩) := by simpa using hp
  have hp2' : T[p2]?.getD undef = .pointer (some ⟨g2, 0, none⟩) := by simpa using hp2
  have hq' : T[q]?.getD undef = .bool b := by simpa using hq
  generalize hX : arrC S = X at hl2
  simp [results, h, hp', hp2', hq', asAddr, hl, hl2, ← hX]
def drelK (V : Nat → Nat → Int) : Nat → Nat → Nat → Int
  | 0 => V
  | k + 1 => setV (drelK V k) (k + 2) (maxF (drelK V k (k + 2)) (drelK V k 0))
theorem drelK_4 (V : Nat → Nat → Int) : vsC (drelK V 4) = vsC (relV V) := vsC_congr fun j m hj _ => by
  simp only [drelK, setV, relV]
  rcases (by omega : j = 0 ∨ j = 1 ∨ j = 2 ∨ j = 3 ∨ j = 4 ∨ j = 5) with rfl | rfl | rfl | rfl | rfl | rfl <;> simp
def scK (U : Nat → Nat → Int) (a : Nat → Int) : Nat → Nat → Nat → Int
  | 0 => setV (setV U 0 (maxF (U 0) a)) 1 (maxF (U 1) a)
  | k + 1 => setV (scK U a k) (k + 2) (maxF (scK U a k (k + 2)) a)
theorem scK_4 (U : Nat → Nat → Int) (a : Nat → Int) : vsC (scK U a 4) = vsC fun k => maxF (U k) a := vsC_congr fun j m hj _ => by
  simp only [scK, setV]
  rcases (by omega : j = 0 ∨ j = 1 ∨ j = 2 ∨ j = 3 ∨ j = 4 ∨ j = 5) with rfl | rfl | rfl | rfl | rfl | rfl <;> simp
def laterK (U : Nat → Nat → Int) (S : Nat → Int) (k : Nat) : Nat → Int := fun i => if i < k then laterS U S i else S i
theorem laterS_at (U : Nat → Nat → Int) (S : Nat → Int) (i : Nat) (hi : i < 4) : laterS U S i = if S i < U 0 (i + 4) then U 0 (i + 4) else S i := by
  unfold laterS maxF flatF
  rw [show (i + 4) % 4 = i by omega]
theorem acq_same (V : Nat → Nat → Int) : setV V 0 (maxF (V 0) (V 1)) = acqV V := by unfold acqV; rw [max_comm]
set_option maxRecDepth 100000 in
set_option maxHeartbeats 8000000 in
theorem dfence_any (V : Nat → Nat → Int) (S : Nat → Int) (mo : Int) (w : World) :
    Calls Try.prog 7 #[.agg (vsC V), .int .u8 mo, arr S] w (Made (.returned (.tuple #[.agg (vsC (fenceV V S mo)), arr (fenceS V S mo), .bool (fenceOk mo)])) w) := by
  have HB := Lib.hid (fnD_new w V S)
  by_cases q1 : mo < 3
  ·
    have hv : Hid (fenceV V S mo = V) := Lib.hid (by unfold fenceV; rw [if_neg (by omega), if_neg (by omega), if_neg (by omega), if_neg (by omega)])
    have hs : Hid (fenceS V S mo = S) := Lib.hid (by unfold fenceS; rw [if_neg (by omega)])
    have hk : Hid (fenceOk mo = false) := Lib.hid (by unfold fenceOk; simp; omega)
    go_enter Try.func7, Try.ntmps7
    go_upto_region 1 with (fail)
    generalize (((w.alloc (.cells (vsC V) 33)).alloc (.cells (arrC S) 24)).alloc (.cells zero48 33)).alloc (.cells zero4 24) = w0 at HB ⊢
    go_upto_region 2 with (fail)
    refine wp_flowM [some 19, some 20, none, none, some 8] [2, 3] [0, 1, 0, 0, 2] [eqV (.agg (vsC (V))), eqV (arr (S)), fun _ _ => True, fun _ _ => True, eqV (.bool false)] (fun j W => match j with | 0 => FnD w (V) (S) (zero48) (zero4) W | 1 => FnD w (V) (S) (vsC (V)) (zero4) W | _ => FnD w (V) (S) (vsC (V)) (arrC (S)) W) (by kernel_rfl) (by kernel_rfl) (by kernel_rfl) (by rfl)
      (by simp only [List.mem_cons, List.not_mem_nil, or_false, forall_eq_or_imp, forall_eq]; refine ⟨?_, ?_, ?_, ?_, ?_⟩ <;> (first | exact eqV_monoB _ _ | exact rowB_mono _ _ _ _ | exact true_monoB _))
      (fun j W W' h hb => by rcases j with _ | _ | j <;> first | exact (FnD.grown h hb)) (HB.out) ?_ ?_ ?_
    · intro i o hi ho hc j A W hj hz hMj hk he
      simp only [List.length_cons, List.length_nil, Nat.zero_add, Nat.reduceAdd] at hi
      obtain rfl | rfl | rfl | rfl | rfl : i = 0 ∨ i = 1 ∨ i = 2 ∨ i = 3 ∨ i = 4 := by omega
      · obtain rfl : j = 0 := Nat.le_zero.1 hj
        have hMs : FnD w (V) (S) (zero48) (zero4) W := hMj
        injection ho with ho; subst ho
        refine .inl ⟨wanted_free rfl, ?_⟩
        have h3 : A.tmps[3]?.getD undef = .pointer (some ⟨w.heap.size, 0, none⟩) := hk 3 (by rfl)
        exact y_load (cs := vsC (V)) rfl h3 (sits_range (hMs.at3)) Try.underlying33 rfl rsSize
      · have hj2 : j ≤ 1 := hj
        rcases j with _ | _ | j
        · have hMs : FnD w (V) (S) (zero48) (zero4) W := hMj
          injection ho with ho; subst ho
          refine .inl ⟨wanted_free rfl, ?_⟩
          have h5 : A.tmps[5]?.getD undef = .pointer (some ⟨w.heap.size + 1, 0, none⟩) := hk 5 (by rfl)
          have c0 := (hMs.at5).cell 0
          have c1 := (hMs.at5).cell 1
          have c2 := (hMs.at5).cell 2
          have c3 := (hMs.at5).cell 3
          go_simp
          exact ⟨rfl, Below.refl _ _⟩
        · have hMs : FnD w (V) (S) (vsC (V)) (zero4) W := hMj
          injection ho with ho; subst ho
          refine .inl ⟨wanted_free rfl, ?_⟩
          have h5 : A.tmps[5]?.getD undef = .pointer (some ⟨w.heap.size + 1, 0, none⟩) := hk 5 (by rfl)
          have c0 := (hMs.at5).cell 0
          have c1 := (hMs.at5).cell 1
          have c2 := (hMs.at5).cell 2
          have c3 := (hMs.at5).cell 3
          go_simp
          exact ⟨rfl, Below.refl _ _⟩
        · omega
      · exact absurd hc (by decide)
      · exact absurd hc (by decide)
      · injection ho with ho; subst ho
        refine .inl ⟨wanted_free rfl, ?_⟩
        go_simp
        exact ⟨rfl, Below.refl _ _⟩
    · intro j i o hji ho A W hz hMj hk he
      rcases j with _ | _ | j
      · obtain rfl : 2 = i := Option.some.inj hji
        injection ho with ho; subst ho
        refine .inl ⟨wanted_free rfl, ?_⟩
        have hMs : FnD w (V) (S) (zero48) (zero4) W := hMj
        have h6 : A.tmps[6]?.getD undef = .pointer (some ⟨w.heap.size + 1 + 1, 0, none⟩) := hk 6 (by rfl)
        have h19 : A.tmps[19]?.getD undef = .agg (vsC (V)) := he 0 (by kernel_rfl) (by rfl)
        exact y_store rfl h6 h19 hMs.at6 (by rw [vsC_size]; exact rsSize) (zero48_size.trans (vsC_size _).symm) (vsC_one _) (by have := HB.out.grow; omega) (fun _ _ => trivial) (hMs.out _)
      · obtain rfl : 3 = i := Option.some.inj hji
        injection ho with ho; subst ho
        refine .inl ⟨wanted_free rfl, ?_⟩
        have hMs : FnD w (V) (S) (vsC (V)) (zero4) W := hMj
        have h7 : A.tmps[7]?.getD undef = .pointer (some ⟨w.heap.size + 1 + 1 + 1, 0, none⟩) := hk 7 (by rfl)
        have h20 : A.tmps[20]?.getD undef = arr (S) := he 1 (by kernel_rfl) (by rfl)
        exact y_store (cells := arrC (S)) rfl h7 h20 hMs.at7 arrSize rfl (four_one _ _ _ _) (by have := HB.out.grow; omega) (fun _ _ => trivial) (hMs.out2 _)
      · simp at hji
    · intro xs W hz hMe hV
      have hMe : FnD w (V) (S) (vsC (V)) (arrC (S)) W := hMe
      have e8 : xs 4 = .bool false := hV 4 (by simp) rfl
      simp only [putM, Act.put, List.setIfInBounds_toArray, List.set_cons_zero, List.set_cons_succ, Nat.zero_add, Nat.reduceAdd, e8]
      clear hV e8
      generalize W = W4 at hMe ⊢
      have HY := Lib.hid hMe
      clear hMe hz HB
      go_wp2_with fail
      exact bodyPost_ret (v := .tuple #[.agg (vsC (V)), arr (S), .bool false]) (dresult_sab Try.results7 rfl rfl rfl HY.out.at6 HY.out.at7) rfl ⟨by rw [hv.out, hs.out, hk.out], HY.out.low⟩
  by_cases q2 : 6 < mo
  ·
    have hv : Hid (fenceV V S mo = V) := Lib.hid (by unfold fenceV; rw [if_neg (by omega), if_neg (by omega), if_neg (by omega), if_neg (by omega)])
    have hs : Hid (fenceS V S mo = S) := Lib.hid (by unfold fenceS; rw [if_neg (by omega)])
    have hk : Hid (fenceOk mo = false) := Lib.hid (by unfold fenceOk; simp; omega)
    go_enter Try.func7, Try.ntmps7
    go_upto_region 1 with (fail)
    generalize (((w.alloc (.cells (vsC V) 33)).alloc (.cells (arrC S) 24)).alloc (.cells zero48 33)).alloc (.cells zero4 24) = w0 at HB ⊢
    go_upto_region 2 with (fail)
    refine wp_flowM [some 19, some 20, none, none, some 8] [2, 3] [0, 1, 0, 0, 2] [eqV (.agg (vsC (V))), eqV (arr (S)), fun _ _ => True, fun _ _ => True, eqV (.bool false)] (fun j W => match j with | 0 => FnD w (V) (S) (zero48) (zero4) W | 1 => FnD w (V) (S) (vsC (V)) (zero4) W | _ => FnD w (V) (S) (vsC (V)) (arrC (S)) W) (by kernel_rfl) (by kernel_rfl) (by kernel_rfl) (by rfl)
      (by simp only [List.mem_cons, List.not_mem_nil, or_false, forall_eq_or_imp, forall_eq]; refine ⟨?_, ?_, ?_, ?_, ?_⟩ <;> (first | exact eqV_monoB _ _ | exact rowB_mono _ _ _ _ | exact true_monoB _))
      (fun j W W' h hb => by rcases j with _ | _ | j <;> first | exact (FnD.grown h hb)) (HB.out) ?_ ?_ ?_
    · intro i o hi ho hc j A W hj hz hMj hk he
      simp only [List.length_cons, List.length_nil, Nat.zero_add, Nat.reduceAdd] at hi
      obtain rfl | rfl | rfl | rfl | rfl : i = 0 ∨ i = 1 ∨ i = 2 ∨ i = 3 ∨ i = 4 := by omega
      · obtain rfl : j = 0 := Nat.le_zero.1 hj
        have hMs : FnD w (V) (S) (zero48) (zero4) W := hMj
        injection ho with ho; subst ho
        refine .inl ⟨wanted_free rfl, ?_⟩
        have h3 : A.tmps[3]?.getD undef = .pointer (some ⟨w.heap.size, 0, none⟩) := hk 3 (by rfl)
        exact y_load (cs := vsC (V)) rfl h3 (sits_range (hMs.at3)) Try.underlying33 rfl rsSize
      · have hj2 : j ≤ 1 := hj
        rcases j with _ | _ | j
        · have hMs : FnD w (V) (S) (zero48) (zero4) W := hMj
          injection ho with ho; subst ho
          refine .inl ⟨wanted_free rfl, ?_⟩
          have h5 : A.tmps[5]?.getD undef = .pointer (some ⟨w.heap.size + 1, 0, none⟩) := hk 5 (by rfl)
          have c0 := (hMs.at5).cell 0
          have c1 := (hMs.at5).cell 1
          have c2 := (hMs.at5).cell 2
          have c3 := (hMs.at5).cell 3
          go_simp
          exact ⟨rfl, Below.refl _ _⟩
        · have hMs : FnD w (V) (S) (vsC (V)) (zero4) W := hMj
          injection ho with ho; subst ho
          refine .inl ⟨wanted_free rfl, ?_⟩
          have h5 : A.tmps[5]?.getD undef = .pointer (some ⟨w.heap.size + 1, 0, none⟩) := hk 5 (by rfl)
          have c0 := (hMs.at5).cell 0
          have c1 := (hMs.at5).cell 1
          have c2 := (hMs.at5).cell 2
          have c3 := (hMs.at5).cell 3
          go_simp
          exact ⟨rfl, Below.refl _ _⟩
        · omega
      · exact absurd hc (by decide)
      · exact absurd hc (by decide)
      · injection ho with ho; subst ho
        refine .inl ⟨wanted_free rfl, ?_⟩
        go_simp
        exact ⟨rfl, Below.refl _ _⟩
    · intro j i o hji ho A W hz hMj hk he
      rcases j with _ | _ | j
      · obtain rfl : 2 = i := Option.some.inj hji
        injection ho with ho; subst ho
        refine .inl ⟨wanted_free rfl, ?_⟩
        have hMs : FnD w (V) (S) (zero48) (zero4) W := hMj
        have h6 : A.tmps[6]?.getD undef = .pointer (some ⟨w.heap.size + 1 + 1, 0, none⟩) := hk 6 (by rfl)
        have h19 : A.tmps[19]?.getD undef = .agg (vsC (V)) := he 0 (by kernel_rfl) (by rfl)
        exact y_store rfl h6 h19 hMs.at6 (by rw [vsC_size]; exact rsSize) (zero48_size.trans (vsC_size _).symm) (vsC_one _) (by have := HB.out.grow; omega) (fun _ _ => trivial) (hMs.out _)
      · obtain rfl : 3 = i := Option.some.inj hji
        injection ho with ho; subst ho
        refine .inl ⟨wanted_free rfl, ?_⟩
        have hMs : FnD w (V) (S) (vsC (V)) (zero4) W := hMj
        have h7 : A.tmps[7]?.getD undef = .pointer (some ⟨w.heap.size + 1 + 1 + 1, 0, none⟩) := hk 7 (by rfl)
        have h20 : A.tmps[20]?.getD undef = arr (S) := he 1 (by kernel_rfl) (by rfl)
        exact y_store (cells := arrC (S)) rfl h7 h20 hMs.at7 arrSize rfl (four_one _ _ _ _) (by have := HB.out.grow; omega) (fun _ _ => trivial) (hMs.out2 _)
      · simp at hji
    · intro xs W hz hMe hV
      have hMe : FnD w (V) (S) (vsC (V)) (arrC (S)) W := hMe
      have e8 : xs 4 = .bool false := hV 4 (by simp) rfl
      simp only [putM, Act.put, List.setIfInBounds_toArray, List.set_cons_zero, List.set_cons_succ, Nat.zero_add, Nat.reduceAdd, e8]
      clear hV e8
      generalize W = W4 at hMe ⊢
      have HY := Lib.hid hMe
      clear hMe hz HB
      go_wp2_with fail
      exact bodyPost_ret (v := .tuple #[.agg (vsC (V)), arr (S), .bool false]) (dresult_sab Try.results7 rfl rfl rfl HY.out.at6 HY.out.at7) rfl ⟨by rw [hv.out, hs.out, hk.out], HY.out.low⟩
  by_cases h3 : mo = 3
  ·
    subst h3
    clear q1 q2 
    have hv : Hid (fenceV V S 3 = acqV V) := Lib.hid rfl
    have hs : Hid (fenceS V S 3 = S) := Lib.hid rfl
    have hk : Hid (fenceOk 3 = true) := Lib.hid rfl
    go_enter Try.func7, Try.ntmps7
    go_upto_region 1 with (fail)
    generalize (((w.alloc (.cells (vsC V) 33)).alloc (.cells (arrC S) 24)).alloc (.cells zero48 33)).alloc (.cells zero4 24) = w0 at HB ⊢
    go_upto_region 4 with (fail)
    refine wp_flowS1 [some 23, some 24, some 25, some 26, some 27, some 28, none] [6] [0, 0, 0, 0, 0, 0, 0] [eqV (.pointer (some ⟨w.heap.size, 0, none⟩)), eqV (.agg (vwC (V 0))), eqV (.pointer (some ⟨w.heap.size, 8, none⟩)), eqV (.agg (vwC (V 1))), eqV (.agg (vwC (maxF (V 0) (V 1)))), eqV (.pointer (some ⟨w.heap.size, 0, none⟩)), fun _ _ => True] (fun j W => match j with | 0 => FnD w (V) (S) zero48 zero4 W | _ => FnD w (acqV V) (S) zero48 zero4 W) (by kernel_rfl) (by kernel_rfl) (by kernel_rfl) (by rfl)
      (by simp only [List.mem_cons, List.not_mem_nil, or_false, forall_eq_or_imp, forall_eq]; refine ⟨?_, ?_, ?_, ?_, ?_, ?_, ?_⟩ <;> (first | exact eqV_monoB _ _ | exact rowB_mono _ _ _ _ | exact true_monoB _))
      (fun j W W' h hb => by rcases j with _ | j <;> first | exact (FnD.grown h hb)) (HB.out) ?_ ?_ ?_
    · intro i o hi ho hc j A W hj hz hMj hk he
      simp only [List.length_cons, List.length_nil, Nat.zero_add, Nat.reduceAdd] at hi
      obtain rfl | rfl | rfl | rfl | rfl | rfl | rfl : i = 0 ∨ i = 1 ∨ i = 2 ∨ i = 3 ∨ i = 4 ∨ i = 5 ∨ i = 6 := by omega
      · injection ho with ho; subst ho
        refine .inl ⟨wanted_free rfl, ?_⟩
        have h3 : A.tmps[3]?.getD undef = .pointer (some ⟨w.heap.size, 0, none⟩) := hk 3 (by rfl)
        go_simp
        exact ⟨rfl, Below.refl _ _⟩
      · obtain rfl : j = 0 := hj
        have hMs : FnD w (V) (S) zero48 zero4 W := hMj
        injection ho with ho; subst ho
        refine .inl ⟨wanted_free rfl, ?_⟩
        have h23 : A.tmps[23]?.getD undef = .pointer (some ⟨w.heap.size, 0, none⟩) := he 0 (by kernel_rfl) (by rfl)
        exact y_load (cs := vwC (V 0)) rfl h23 (vs_range (V := V) (hMs.at3) (0) _ (by omega) rfl) Try.underlying30 rfl rvSize
      · injection ho with ho; subst ho
        refine .inl ⟨wanted_free rfl, ?_⟩
        have h3 : A.tmps[3]?.getD undef = .pointer (some ⟨w.heap.size, 0, none⟩) := hk 3 (by rfl)
        go_simp
        exact ⟨rfl, Below.refl _ _⟩
      · obtain rfl : j = 0 := hj
        have hMs : FnD w (V) (S) zero48 zero4 W := hMj
        injection ho with ho; subst ho
        refine .inl ⟨wanted_free rfl, ?_⟩
        have h25 : A.tmps[25]?.getD undef = .pointer (some ⟨w.heap.size, 8, none⟩) := he 2 (by kernel_rfl) (by rfl)
        exact y_load (cs := vwC (V 1)) rfl h25 (vs_range (V := V) (hMs.at3) (1) _ (by omega) rfl) Try.underlying30 rfl rvSize
      · obtain rfl : j = 0 := hj
        have hMs : FnD w (V) (S) zero48 zero4 W := hMj
        injection ho with ho; subst ho
        refine .inl ⟨wanted_free rfl, ?_⟩
        have h24 : A.tmps[24]?.getD undef = .agg (vwC (V 0)) := he 1 (by kernel_rfl) (by rfl)
        have h26 : A.tmps[26]?.getD undef = .agg (vwC (V 1)) := he 3 (by kernel_rfl) (by rfl)
        go_simp
        refine Calls.mono (djoin_any (V 0) (V 1) W) ?_
        rintro e' w' ⟨rfl, hb⟩
        exact ⟨_, rfl, rfl, hb⟩
      · injection ho with ho; subst ho
        refine .inl ⟨wanted_free rfl, ?_⟩
        have h3 : A.tmps[3]?.getD undef = .pointer (some ⟨w.heap.size, 0, none⟩) := hk 3 (by rfl)
        go_simp
        exact ⟨rfl, Below.refl _ _⟩
      · exact absurd hc (by decide)
    · intro j i o hji ho A W hz hMj hk he
      rcases j with _ | j
      · obtain rfl : 6 = i := Option.some.inj hji
        injection ho with ho; subst ho
        refine .inl ⟨wanted_free rfl, ?_⟩
        have hMs : FnD w (V) (S) zero48 zero4 W := hMj
        have h28 : A.tmps[28]?.getD undef = .pointer (some ⟨w.heap.size, 0, none⟩) := he 5 (by kernel_rfl) (by rfl)
        have h27 : A.tmps[27]?.getD undef = .agg (vwC (maxF (V 0) (V 1))) := he 4 (by kernel_rfl) (by rfl)
        exact y_storeK rfl h28 h27 hMs.at3 (k := 0) (by omega) rfl rvSize (by have := HB.out.grow; omega) (fun _ _ => trivial) (by have h := hMs.setK 0 _ (maxF (V 0) (V 1)) rfl; rwa [acq_same] at h)
      · simp at hji
    · intro xs W hz hMe hV
      have hMe : FnD w (acqV V) (S) zero48 zero4 W := hMe
      simp only [putM, Act.put, List.setIfInBounds_toArray, List.set_cons_zero, List.set_cons_succ, Nat.zero_add, Nat.reduceAdd]
      clear hV
      generalize W = X1 at hMe ⊢
      have HX1 := Lib.hid hMe
      clear hMe hz HB
      go_wp2_with fail
      refine wp_loop_rounds 5 ?_
      simp only [Code.rounds]
      go_upto_region 22 with (fail)
      refine wp_flowM [some 95, some 96, none, none, some 8] [2, 3] [0, 1, 0, 0, 2] [eqV (.agg (vsC (acqV V))), eqV (arr (S)), fun _ _ => True, fun _ _ => True, eqV (.bool true)] (fun j W => match j with | 0 => FnD w (acqV V) (S) (zero48) (zero4) W | 1 => FnD w (acqV V) (S) (vsC (acqV V)) (zero4) W | _ => FnD w (acqV V) (S) (vsC (acqV V)) (arrC (S)) W) (by kernel_rfl) (by kernel_rfl) (by kernel_rfl) (by rfl)
        (by simp only [List.mem_cons, List.not_mem_nil, or_false, forall_eq_or_imp, forall_eq]; refine ⟨?_, ?_, ?_, ?_, ?_⟩ <;> (first | exact eqV_monoB _ _ | exact rowB_mono _ _ _ _ | exact true_monoB _))
        (fun j W W' h hb => by rcases j with _ | _ | j <;> first | exact (FnD.grown h hb)) (HX1.out) ?_ ?_ ?_
      · intro i o hi ho hc j A W hj hz hMj hk he
        simp only [List.length_cons, List.length_nil, Nat.zero_add, Nat.reduceAdd] at hi
        obtain rfl | rfl | rfl | rfl | rfl : i = 0 ∨ i = 1 ∨ i = 2 ∨ i = 3 ∨ i = 4 := by omega
        · obtain rfl : j = 0 := Nat.le_zero.1 hj
          have hMs : FnD w (acqV V) (S) (zero48) (zero4) W := hMj
          injection ho with ho; subst ho
          refine .inl ⟨wanted_free rfl, ?_⟩
          have h3 : A.tmps[3]?.getD undef = .pointer (some ⟨w.heap.size, 0, none⟩) := hk 3 (by rfl)
          exact y_load (cs := vsC (acqV V)) rfl h3 (sits_range (hMs.at3)) Try.underlying33 rfl rsSize
        · have hj2 : j ≤ 1 := hj
          rcases j with _ | _ | j
          · have hMs : FnD w (acqV V) (S) (zero48) (zero4) W := hMj
            injection ho with ho; subst ho
            refine .inl ⟨wanted_free rfl, ?_⟩
            have h5 : A.tmps[5]?.getD undef = .pointer (some ⟨w.heap.size + 1, 0, none⟩) := hk 5 (by rfl)
            have c0 := (hMs.at5).cell 0
            have c1 := (hMs.at5).cell 1
            have c2 := (hMs.at5).cell 2
            have c3 := (hMs.at5).cell 3
            go_simp
            exact ⟨rfl, Below.refl _ _⟩
          · have hMs : FnD w (acqV V) (S) (vsC (acqV V)) (zero4) W := hMj
            injection ho with ho; subst ho
            refine .inl ⟨wanted_free rfl, ?_⟩
            have h5 : A.tmps[5]?.getD undef = .pointer (some ⟨w.heap.size + 1, 0, none⟩) := hk 5 (by rfl)
            have c0 := (hMs.at5).cell 0
            have c1 := (hMs.at5).cell 1
            have c2 := (hMs.at5).cell 2
            have c3 := (hMs.at5).cell 3
            go_simp
            exact ⟨rfl, Below.refl _ _⟩
          · omega
        · exact absurd hc (by decide)
        · exact absurd hc (by decide)
        · injection ho with ho; subst ho
          refine .inl ⟨wanted_free rfl, ?_⟩
          go_simp
          exact ⟨rfl, Below.refl _ _⟩
      · intro j i o hji ho A W hz hMj hk he
        rcases j with _ | _ | j
        · obtain rfl : 2 = i := Option.some.inj hji
          injection ho with ho; subst ho
          refine .inl ⟨wanted_free rfl, ?_⟩
          have hMs : FnD w (acqV V) (S) (zero48) (zero4) W := hMj
          have h6 : A.tmps[6]?.getD undef = .pointer (some ⟨w.heap.size + 1 + 1, 0, none⟩) := hk 6 (by rfl)
          have h95 : A.tmps[95]?.getD undef = .agg (vsC (acqV V)) := he 0 (by kernel_rfl) (by rfl)
          exact y_store rfl h6 h95 hMs.at6 (by rw [vsC_size]; exact rsSize) (zero48_size.trans (vsC_size _).symm) (vsC_one _) (by have := HX1.out.grow; omega) (fun _ _ => trivial) (hMs.out _)
        · obtain rfl : 3 = i := Option.some.inj hji
          injection ho with ho; subst ho
          refine .inl ⟨wanted_free rfl, ?_⟩
          have hMs : FnD w (acqV V) (S) (vsC (acqV V)) (zero4) W := hMj
          have h7 : A.tmps[7]?.getD undef = .pointer (some ⟨w.heap.size + 1 + 1 + 1, 0, none⟩) := hk 7 (by rfl)
          have h96 : A.tmps[96]?.getD undef = arr (S) := he 1 (by kernel_rfl) (by rfl)
          exact y_store (cells := arrC (S)) rfl h7 h96 hMs.at7 arrSize rfl (four_one _ _ _ _) (by have := HX1.out.grow; omega) (fun _ _ => trivial) (hMs.out2 _)
        · simp at hji
      · intro xs W hz hMe hV
        have hMe : FnD w (acqV V) (S) (vsC (acqV V)) (arrC (S)) W := hMe
        have e8 : xs 4 = .bool true := hV 4 (by simp) rfl
        simp only [putM, Act.put, List.setIfInBounds_toArray, List.set_cons_zero, List.set_cons_succ, Nat.zero_add, Nat.reduceAdd, e8]
        clear hV e8
        generalize W = W4 at hMe ⊢
        have HY := Lib.hid hMe
        clear hMe hz HX1
        go_wp2_with fail
        exact bodyPost_ret (v := .tuple #[.agg (vsC (acqV V)), arr (S), .bool true]) (dresult_sab Try.results7 rfl rfl rfl HY.out.at6 HY.out.at7) rfl ⟨by rw [hv.out, hs.out, hk.out], HY.out.low⟩
  by_cases h4 : mo = 4
  ·
    subst h4
    clear q1 q2 h3
    have hv : Hid (fenceV V S 4 = relV V) := Lib.hid rfl
    have hs : Hid (fenceS V S 4 = S) := Lib.hid rfl
    have hk : Hid (fenceOk 4 = true) := Lib.hid rfl
    go_enter Try.func7, Try.ntmps7
    go_upto_region 1 with (fail)
    generalize (((w.alloc (.cells (vsC V) 33)).alloc (.cells (arrC S) 24)).alloc (.cells zero48 33)).alloc (.cells zero4 24) = w0 at HB ⊢
    go_wp2_with fail
    refine wp_loop_rounds 5 ?_
    simp only [Code.rounds]
    go_upto_region 8 with (fail)
    refine wp_flowM [some 37, some 38, some 39, some 40, some 41, some 42, some 43, some 44, some 45, some 46, none] [10] [0, 0, 0, 0, 0, 0, 0, 0, 1, 0, 0] [eqV (.int .i64 (0)), eqV (.int .i64 (0)), eqV (.pointer (some ⟨w.heap.size, 16, none⟩)), eqV (.pointer (some ⟨w.heap.size, 16, none⟩)), eqV (.agg (vwC ((V) 2))), eqV (.pointer (some ⟨w.heap.size, 0, none⟩)), eqV (.agg (vwC ((V) 0))), eqV (.agg (vwC (maxF ((V) 2) ((V) 0)))), eqV (.pointer (some ⟨w.heap.size, 16, none⟩)), eqV (.pointer (some ⟨w.heap.size, 16, none⟩)), fun _ _ => True] (fun j W => match j with | 0 => FnD w (V) (S) zero48 zero4 W | _ => FnD w (drelK (V) 1) (S) zero48 zero4 W) (by kernel_rfl) (by kernel_rfl) (by kernel_rfl) (by rfl)
      (by simp only [List.mem_cons, List.not_mem_nil, or_false, forall_eq_or_imp, forall_eq]; refine ⟨?_, ?_, ?_, ?_, ?_, ?_, ?_, ?_, ?_, ?_, ?_⟩ <;> (first | exact eqV_monoB _ _ | exact rowB_mono _ _ _ _ | exact true_monoB _))
      (fun j W W' h hb => by rcases j with _ | j <;> first | exact (FnD.grown h hb)) (HB.out) ?_ ?_ ?_
    · intro i o hi ho hc j A W hj hz hMj hk he
      simp only [List.length_cons, List.length_nil, Nat.zero_add, Nat.reduceAdd] at hi
      obtain rfl | rfl | rfl | rfl | rfl | rfl | rfl | rfl | rfl | rfl | rfl : i = 0 ∨ i = 1 ∨ i = 2 ∨ i = 3 ∨ i = 4 ∨ i = 5 ∨ i = 6 ∨ i = 7 ∨ i = 8 ∨ i = 9 ∨ i = 10 := by omega
      · injection ho with ho; subst ho
        refine .inl ⟨wanted_free rfl, ?_⟩
        have h9 : A.tmps[9]?.getD undef = .int .i64 (0) := hk 9 (by rfl)
        go_simp
        exact ⟨rfl, Below.refl _ _⟩
      · injection ho with ho; subst ho
        refine .inl ⟨wanted_free rfl, ?_⟩
        have h9 : A.tmps[9]?.getD undef = .int .i64 (0) := hk 9 (by rfl)
        go_simp
        exact ⟨rfl, Below.refl _ _⟩
      · injection ho with ho; subst ho
        refine .inl ⟨wanted_free rfl, ?_⟩
        have h3 : A.tmps[3]?.getD undef = .pointer (some ⟨w.heap.size, 0, none⟩) := hk 3 (by rfl)
        go_simp
        exact ⟨rfl, Below.refl _ _⟩
      · injection ho with ho; subst ho
        refine .inl ⟨wanted_free rfl, ?_⟩
        have h39 : A.tmps[39]?.getD undef = .pointer (some ⟨w.heap.size, 16, none⟩) := he 2 (by kernel_rfl) (by rfl)
        have h38 : A.tmps[38]?.getD undef = .int .i64 (0) := he 1 (by kernel_rfl) (by rfl)
        go_simp
        exact ⟨rfl, Below.refl _ _⟩
      · obtain rfl : j = 0 := Nat.le_zero.1 hj
        have hMs : FnD w (V) (S) zero48 zero4 W := hMj
        injection ho with ho; subst ho
        refine .inl ⟨wanted_free rfl, ?_⟩
        have h40 : A.tmps[40]?.getD undef = .pointer (some ⟨w.heap.size, 16, none⟩) := he 3 (by kernel_rfl) (by rfl)
        exact y_load (cs := vwC ((V) 2)) rfl h40 (vs_range (V := V) (hMs.at3) (2) _ (by omega) rfl) Try.underlying30 rfl rvSize
      · injection ho with ho; subst ho
        refine .inl ⟨wanted_free rfl, ?_⟩
        have h3 : A.tmps[3]?.getD undef = .pointer (some ⟨w.heap.size, 0, none⟩) := hk 3 (by rfl)
        go_simp
        exact ⟨rfl, Below.refl _ _⟩
      · obtain rfl : j = 0 := Nat.le_zero.1 hj
        have hMs : FnD w (V) (S) zero48 zero4 W := hMj
        injection ho with ho; subst ho
        refine .inl ⟨wanted_free rfl, ?_⟩
        have h42 : A.tmps[42]?.getD undef = .pointer (some ⟨w.heap.size, 0, none⟩) := he 5 (by kernel_rfl) (by rfl)
        exact y_load (cs := vwC ((V) 0)) rfl h42 (vs_range (V := V) (hMs.at3) (0) _ (by omega) rfl) Try.underlying30 rfl rvSize
      · obtain rfl : j = 0 := Nat.le_zero.1 hj
        have hMs : FnD w (V) (S) zero48 zero4 W := hMj
        injection ho with ho; subst ho
        refine .inl ⟨wanted_free rfl, ?_⟩
        have h41 : A.tmps[41]?.getD undef = .agg (vwC ((V) 2)) := he 4 (by kernel_rfl) (by rfl)
        have h43 : A.tmps[43]?.getD undef = .agg (vwC ((V) 0)) := he 6 (by kernel_rfl) (by rfl)
        go_simp
        refine Calls.mono (djoin_any ((V) 2) ((V) 0) W) ?_
        rintro e' w' ⟨rfl, hb⟩
        exact ⟨_, rfl, rfl, hb⟩
      · injection ho with ho; subst ho
        refine .inl ⟨wanted_free rfl, ?_⟩
        have h3 : A.tmps[3]?.getD undef = .pointer (some ⟨w.heap.size, 0, none⟩) := hk 3 (by rfl)
        go_simp
        exact ⟨rfl, Below.refl _ _⟩
      · injection ho with ho; subst ho
        refine .inl ⟨wanted_free rfl, ?_⟩
        have h45 : A.tmps[45]?.getD undef = .pointer (some ⟨w.heap.size, 16, none⟩) := he 8 (by kernel_rfl) (by rfl)
        have h37 : A.tmps[37]?.getD undef = .int .i64 (0) := he 0 (by kernel_rfl) (by rfl)
        go_simp
        exact ⟨rfl, Below.refl _ _⟩
      · exact absurd hc (by decide)
    · intro j i o hji ho A W hz hMj hk he
      rcases j with _ | j
      · obtain rfl : 10 = i := Option.some.inj hji
        injection ho with ho; subst ho
        refine .inl ⟨wanted_free rfl, ?_⟩
        have hMs : FnD w (V) (S) zero48 zero4 W := hMj
        have h46 : A.tmps[46]?.getD undef = .pointer (some ⟨w.heap.size, 16, none⟩) := he 9 (by kernel_rfl) (by rfl)
        have h44 : A.tmps[44]?.getD undef = .agg (vwC (maxF ((V) 2) ((V) 0))) := he 7 (by kernel_rfl) (by rfl)
        exact y_storeK rfl h46 h44 hMs.at3 (k := 2) (by omega) rfl rvSize (by have := HB.out.grow; omega) (fun _ _ => trivial) (hMs.setK 2 _ _ rfl)
      · simp at hji
    · intro xs W hz hMe hV
      have hMe : FnD w (drelK (V) 1) (S) zero48 zero4 W := hMe
      simp only [putM, Act.put, List.setIfInBounds_toArray, List.set_cons_zero, List.set_cons_succ, Nat.zero_add, Nat.reduceAdd]
      clear hV
      generalize W = X1 at hMe ⊢
      have HX1 := Lib.hid hMe
      clear hMe hz HB
      go_upto_region 8 with (fail)
      refine wp_flowM [some 37, some 38, some 39, some 40, some 41, some 42, some 43, some 44, some 45, some 46, none] [10] [0, 0, 0, 0, 0, 0, 0, 0, 1, 0, 0] [eqV (.int .i64 (1)), eqV (.int .i64 (1)), eqV (.pointer (some ⟨w.heap.size, 16, none⟩)), eqV (.pointer (some ⟨w.heap.size, 24, none⟩)), eqV (.agg (vwC ((drelK (V) 1) 3))), eqV (.pointer (some ⟨w.heap.size, 0, none⟩)), eqV (.agg (vwC ((drelK (V) 1) 0))), eqV (.agg (vwC (maxF ((drelK (V) 1) 3) ((drelK (V) 1) 0)))), eqV (.pointer (some ⟨w.heap.size, 16, none⟩)), eqV (.pointer (some ⟨w.heap.size, 24, none⟩)), fun _ _ => True] (fun j W => match j with | 0 => FnD w (drelK (V) 1) (S) zero48 zero4 W | _ => FnD w (drelK (V) 2) (S) zero48 zero4 W) (by kernel_rfl) (by kernel_rfl) (by kernel_rfl) (by rfl)
        (by simp only [List.mem_cons, List.not_mem_nil, or_false, forall_eq_or_imp, forall_eq]; refine ⟨?_, ?_, ?_, ?_, ?_, ?_, ?_, ?_, ?_, ?_, ?_⟩ <;> (first | exact eqV_monoB _ _ | exact rowB_mono _ _ _ _ | exact true_monoB _))
        (fun j W W' h hb => by rcases j with _ | j <;> first | exact (FnD.grown h hb)) (HX1.out) ?_ ?_ ?_
      · intro i o hi ho hc j A W hj hz hMj hk he
        simp only [List.length_cons, List.length_nil, Nat.zero_add, Nat.reduceAdd] at hi
        obtain rfl | rfl | rfl | rfl | rfl | rfl | rfl | rfl | rfl | rfl | rfl : i = 0 ∨ i = 1 ∨ i = 2 ∨ i = 3 ∨ i = 4 ∨ i = 5 ∨ i = 6 ∨ i = 7 ∨ i = 8 ∨ i = 9 ∨ i = 10 := by omega
        · injection ho with ho; subst ho
          refine .inl ⟨wanted_free rfl, ?_⟩
          have h9 : A.tmps[9]?.getD undef = .int .i64 (1) := hk 9 (by rfl)
          go_simp
          exact ⟨rfl, Below.refl _ _⟩
        · injection ho with ho; subst ho
          refine .inl ⟨wanted_free rfl, ?_⟩
          have h9 : A.tmps[9]?.getD undef = .int .i64 (1) := hk 9 (by rfl)
          go_simp
          exact ⟨rfl, Below.refl _ _⟩
        · injection ho with ho; subst ho
          refine .inl ⟨wanted_free rfl, ?_⟩
          have h3 : A.tmps[3]?.getD undef = .pointer (some ⟨w.heap.size, 0, none⟩) := hk 3 (by rfl)
          go_simp
          exact ⟨rfl, Below.refl _ _⟩
        · injection ho with ho; subst ho
          refine .inl ⟨wanted_free rfl, ?_⟩
          have h39 : A.tmps[39]?.getD undef = .pointer (some ⟨w.heap.size, 16, none⟩) := he 2 (by kernel_rfl) (by rfl)
          have h38 : A.tmps[38]?.getD undef = .int .i64 (1) := he 1 (by kernel_rfl) (by rfl)
          go_simp
          exact ⟨rfl, Below.refl _ _⟩
        · obtain rfl : j = 0 := Nat.le_zero.1 hj
          have hMs : FnD w (drelK (V) 1) (S) zero48 zero4 W := hMj
          injection ho with ho; subst ho
          refine .inl ⟨wanted_free rfl, ?_⟩
          have h40 : A.tmps[40]?.getD undef = .pointer (some ⟨w.heap.size, 24, none⟩) := he 3 (by kernel_rfl) (by rfl)
          exact y_load (cs := vwC ((drelK (V) 1) 3)) rfl h40 (vs_range (V := drelK (V) 1) (hMs.at3) (3) _ (by omega) rfl) Try.underlying30 rfl rvSize
        · injection ho with ho; subst ho
          refine .inl ⟨wanted_free rfl, ?_⟩
          have h3 : A.tmps[3]?.getD undef = .pointer (some ⟨w.heap.size, 0, none⟩) := hk 3 (by rfl)
          go_simp
          exact ⟨rfl, Below.refl _ _⟩
        · obtain rfl : j = 0 := Nat.le_zero.1 hj
          have hMs : FnD w (drelK (V) 1) (S) zero48 zero4 W := hMj
          injection ho with ho; subst ho
          refine .inl ⟨wanted_free rfl, ?_⟩
          have h42 : A.tmps[42]?.getD undef = .pointer (some ⟨w.heap.size, 0, none⟩) := he 5 (by kernel_rfl) (by rfl)
          exact y_load (cs := vwC ((drelK (V) 1) 0)) rfl h42 (vs_range (V := drelK (V) 1) (hMs.at3) (0) _ (by omega) rfl) Try.underlying30 rfl rvSize
        · obtain rfl : j = 0 := Nat.le_zero.1 hj
          have hMs : FnD w (drelK (V) 1) (S) zero48 zero4 W := hMj
          injection ho with ho; subst ho
          refine .inl ⟨wanted_free rfl, ?_⟩
          have h41 : A.tmps[41]?.getD undef = .agg (vwC ((drelK (V) 1) 3)) := he 4 (by kernel_rfl) (by rfl)
          have h43 : A.tmps[43]?.getD undef = .agg (vwC ((drelK (V) 1) 0)) := he 6 (by kernel_rfl) (by rfl)
          go_simp
          refine Calls.mono (djoin_any ((drelK (V) 1) 3) ((drelK (V) 1) 0) W) ?_
          rintro e' w' ⟨rfl, hb⟩
          exact ⟨_, rfl, rfl, hb⟩
        · injection ho with ho; subst ho
          refine .inl ⟨wanted_free rfl, ?_⟩
          have h3 : A.tmps[3]?.getD undef = .pointer (some ⟨w.heap.size, 0, none⟩) := hk 3 (by rfl)
          go_simp
          exact ⟨rfl, Below.refl _ _⟩
        · injection ho with ho; subst ho
          refine .inl ⟨wanted_free rfl, ?_⟩
          have h45 : A.tmps[45]?.getD undef = .pointer (some ⟨w.heap.size, 16, none⟩) := he 8 (by kernel_rfl) (by rfl)
          have h37 : A.tmps[37]?.getD undef = .int .i64 (1) := he 0 (by kernel_rfl) (by rfl)
          go_simp
          exact ⟨rfl, Below.refl _ _⟩
        · exact absurd hc (by decide)
      · intro j i o hji ho A W hz hMj hk he
        rcases j with _ | j
        · obtain rfl : 10 = i := Option.some.inj hji
          injection ho with ho; subst ho
          refine .inl ⟨wanted_free rfl, ?_⟩
          have hMs : FnD w (drelK (V) 1) (S) zero48 zero4 W := hMj
          have h46 : A.tmps[46]?.getD undef = .pointer (some ⟨w.heap.size, 24, none⟩) := he 9 (by kernel_rfl) (by rfl)
          have h44 : A.tmps[44]?.getD undef = .agg (vwC (maxF ((drelK (V) 1) 3) ((drelK (V) 1) 0))) := he 7 (by kernel_rfl) (by rfl)
          exact y_storeK rfl h46 h44 hMs.at3 (k := 3) (by omega) rfl rvSize (by have := HX1.out.grow; omega) (fun _ _ => trivial) (hMs.setK 3 _ _ rfl)
        · simp at hji
      · intro xs W hz hMe hV
        have hMe : FnD w (drelK (V) 2) (S) zero48 zero4 W := hMe
        simp only [putM, Act.put, List.setIfInBounds_toArray, List.set_cons_zero, List.set_cons_succ, Nat.zero_add, Nat.reduceAdd]
        clear hV
        generalize W = X2 at hMe ⊢
        have HX2 := Lib.hid hMe
        clear hMe hz HX1
        go_upto_region 8 with (fail)
        refine wp_flowM [some 37, some 38, some 39, some 40, some 41, some 42, some 43, some 44, some 45, some 46, none] [10] [0, 0, 0, 0, 0, 0, 0, 0, 1, 0, 0] [eqV (.int .i64 (2)), eqV (.int .i64 (2)), eqV (.pointer (some ⟨w.heap.size, 16, none⟩)), eqV (.pointer (some ⟨w.heap.size, 32, none⟩)), eqV (.agg (vwC ((drelK (V) 2) 4))), eqV (.pointer (some ⟨w.heap.size, 0, none⟩)), eqV (.agg (vwC ((drelK (V) 2) 0))), eqV (.agg (vwC (maxF ((drelK (V) 2) 4) ((drelK (V) 2) 0)))), eqV (.pointer (some ⟨w.heap.size, 16, none⟩)), eqV (.pointer (some ⟨w.heap.size, 32, none⟩)), fun _ _ => True] (fun j W => match j with | 0 => FnD w (drelK (V) 2) (S) zero48 zero4 W | _ => FnD w (drelK (V) 3) (S) zero48 zero4 W) (by kernel_rfl) (by kernel_rfl) (by kernel_rfl) (by rfl)
          (by simp only [List.mem_cons, List.not_mem_nil, or_false, forall_eq_or_imp, forall_eq]; refine ⟨?_, ?_, ?_, ?_, ?_, ?_, ?_, ?_, ?_, ?_, ?_⟩ <;> (first | exact eqV_monoB _ _ | exact rowB_mono _ _ _ _ | exact true_monoB _))
          (fun j W W' h hb => by rcases j with _ | j <;> first | exact (FnD.grown h hb)) (HX2.out) ?_ ?_ ?_
        · intro i o hi ho hc j A W hj hz hMj hk he
          simp only [List.length_cons, List.length_nil, Nat.zero_add, Nat.reduceAdd] at hi
          obtain rfl | rfl | rfl | rfl | rfl | rfl | rfl | rfl | rfl | rfl | rfl : i = 0 ∨ i = 1 ∨ i = 2 ∨ i = 3 ∨ i = 4 ∨ i = 5 ∨ i = 6 ∨ i = 7 ∨ i = 8 ∨ i = 9 ∨ i = 10 := by omega
          · injection ho with ho; subst ho
            refine .inl ⟨wanted_free rfl, ?_⟩
            have h9 : A.tmps[9]?.getD undef = .int .i64 (2) := hk 9 (by rfl)
            go_simp
            exact ⟨rfl, Below.refl _ _⟩
          · injection ho with ho; subst ho
            refine .inl ⟨wanted_free rfl, ?_⟩
            have h9 : A.tmps[9]?.getD undef = .int .i64 (2) := hk 9 (by rfl)
            go_simp
            exact ⟨rfl, Below.refl _ _⟩
          · injection ho with ho; subst ho
            refine .inl ⟨wanted_free rfl, ?_⟩
            have h3 : A.tmps[3]?.getD undef = .pointer (some ⟨w.heap.size, 0, none⟩) := hk 3 (by rfl)
            go_simp
            exact ⟨rfl, Below.refl _ _⟩
          · injection ho with ho; subst ho
            refine .inl ⟨wanted_free rfl, ?_⟩
            have h39 : A.tmps[39]?.getD undef = .pointer (some ⟨w.heap.size, 16, none⟩) := he 2 (by kernel_rfl) (by rfl)
            have h38 : A.tmps[38]?.getD undef = .int .i64 (2) := he 1 (by kernel_rfl) (by rfl)
            go_simp
            exact ⟨rfl, Below.refl _ _⟩
          · obtain rfl : j = 0 := Nat.le_zero.1 hj
            have hMs : FnD w (drelK (V) 2) (S) zero48 zero4 W := hMj
            injection ho with ho; subst ho
            refine .inl ⟨wanted_free rfl, ?_⟩
            have h40 : A.tmps[40]?.getD undef = .pointer (some ⟨w.heap.size, 32, none⟩) := he 3 (by kernel_rfl) (by rfl)
            exact y_load (cs := vwC ((drelK (V) 2) 4)) rfl h40 (vs_range (V := drelK (V) 2) (hMs.at3) (4) _ (by omega) rfl) Try.underlying30 rfl rvSize
          · injection ho with ho; subst ho
            refine .inl ⟨wanted_free rfl, ?_⟩
            have h3 : A.tmps[3]?.getD undef = .pointer (some ⟨w.heap.size, 0, none⟩) := hk 3 (by rfl)
            go_simp
            exact ⟨rfl, Below.refl _ _⟩
          · obtain rfl : j = 0 := Nat.le_zero.1 hj
            have hMs : FnD w (drelK (V) 2) (S) zero48 zero4 W := hMj
            injection ho with ho; subst ho
            refine .inl ⟨wanted_free rfl, ?_⟩
            have h42 : A.tmps[42]?.getD undef = .pointer (some ⟨w.heap.size, 0, none⟩) := he 5 (by kernel_rfl) (by rfl)
            exact y_load (cs := vwC ((drelK (V) 2) 0)) rfl h42 (vs_range (V := drelK (V) 2) (hMs.at3) (0) _ (by omega) rfl) Try.underlying30 rfl rvSize
          · obtain rfl : j = 0 := Nat.le_zero.1 hj
            have hMs : FnD w (drelK (V) 2) (S) zero48 zero4 W := hMj
            injection ho with ho; subst ho
            refine .inl ⟨wanted_free rfl, ?_⟩
            have h41 : A.tmps[41]?.getD undef = .agg (vwC ((drelK (V) 2) 4)) := he 4 (by kernel_rfl) (by rfl)
            have h43 : A.tmps[43]?.getD undef = .agg (vwC ((drelK (V) 2) 0)) := he 6 (by kernel_rfl) (by rfl)
            go_simp
            refine Calls.mono (djoin_any ((drelK (V) 2) 4) ((drelK (V) 2) 0) W) ?_
            rintro e' w' ⟨rfl, hb⟩
            exact ⟨_, rfl, rfl, hb⟩
          · injection ho with ho; subst ho
            refine .inl ⟨wanted_free rfl, ?_⟩
            have h3 : A.tmps[3]?.getD undef = .pointer (some ⟨w.heap.size, 0, none⟩) := hk 3 (by rfl)
            go_simp
            exact ⟨rfl, Below.refl _ _⟩
          · injection ho with ho; subst ho
            refine .inl ⟨wanted_free rfl, ?_⟩
            have h45 : A.tmps[45]?.getD undef = .pointer (some ⟨w.heap.size, 16, none⟩) := he 8 (by kernel_rfl) (by rfl)
            have h37 : A.tmps[37]?.getD undef = .int .i64 (2) := he 0 (by kernel_rfl) (by rfl)
            go_simp
            exact ⟨rfl, Below.refl _ _⟩
          · exact absurd hc (by decide)
        · intro j i o hji ho A W hz hMj hk he
          rcases j with _ | j
          · obtain rfl : 10 = i := Option.some.inj hji
            injection ho with ho; subst ho
            refine .inl ⟨wanted_free rfl, ?_⟩
            have hMs : FnD w (drelK (V) 2) (S) zero48 zero4 W := hMj
            have h46 : A.tmps[46]?.getD undef = .pointer (some ⟨w.heap.size, 32, none⟩) := he 9 (by kernel_rfl) (by rfl)
            have h44 : A.tmps[44]?.getD undef = .agg (vwC (maxF ((drelK (V) 2) 4) ((drelK (V) 2) 0))) := he 7 (by kernel_rfl) (by rfl)
            exact y_storeK rfl h46 h44 hMs.at3 (k := 4) (by omega) rfl rvSize (by have := HX2.out.grow; omega) (fun _ _ => trivial) (hMs.setK 4 _ _ rfl)
          · simp at hji
        · intro xs W hz hMe hV
          have hMe : FnD w (drelK (V) 3) (S) zero48 zero4 W := hMe
          simp only [putM, Act.put, List.setIfInBounds_toArray, List.set_cons_zero, List.set_cons_succ, Nat.zero_add, Nat.reduceAdd]
          clear hV
          generalize W = X3 at hMe ⊢
          have HX3 := Lib.hid hMe
          clear hMe hz HX2
          go_upto_region 8 with (fail)
          refine wp_flowM [some 37, some 38, some 39, some 40, some 41, some 42, some 43, some 44, some 45, some 46, none] [10] [0, 0, 0, 0, 0, 0, 0, 0, 1, 0, 0] [eqV (.int .i64 (3)), eqV (.int .i64 (3)), eqV (.pointer (some ⟨w.heap.size, 16, none⟩)), eqV (.pointer (some ⟨w.heap.size, 40, none⟩)), eqV (.agg (vwC ((drelK (V) 3) 5))), eqV (.pointer (some ⟨w.heap.size, 0, none⟩)), eqV (.agg (vwC ((drelK (V) 3) 0))), eqV (.agg (vwC (maxF ((drelK (V) 3) 5) ((drelK (V) 3) 0)))), eqV (.pointer (some ⟨w.heap.size, 16, none⟩)), eqV (.pointer (some ⟨w.heap.size, 40, none⟩)), fun _ _ => True] (fun j W => match j with | 0 => FnD w (drelK (V) 3) (S) zero48 zero4 W | _ => FnD w (drelK (V) 4) (S) zero48 zero4 W) (by kernel_rfl) (by kernel_rfl) (by kernel_rfl) (by rfl)
            (by simp only [List.mem_cons, List.not_mem_nil, or_false, forall_eq_or_imp, forall_eq]; refine ⟨?_, ?_, ?_, ?_, ?_, ?_, ?_, ?_, ?_, ?_, ?_⟩ <;> (first | exact eqV_monoB _ _ | exact rowB_mono _ _ _ _ | exact true_monoB _))
            (fun j W W' h hb => by rcases j with _ | j <;> first | exact (FnD.grown h hb)) (HX3.out) ?_ ?_ ?_
          · intro i o hi ho hc j A W hj hz hMj hk he
            simp only [List.length_cons, List.length_nil, Nat.zero_add, Nat.reduceAdd] at hi
            obtain rfl | rfl | rfl | rfl | rfl | rfl | rfl | rfl | rfl | rfl | rfl : i = 0 ∨ i = 1 ∨ i = 2 ∨ i = 3 ∨ i = 4 ∨ i = 5 ∨ i = 6 ∨ i = 7 ∨ i = 8 ∨ i = 9 ∨ i = 10 := by omega
            · injection ho with ho; subst ho
              refine .inl ⟨wanted_free rfl, ?_⟩
              have h9 : A.tmps[9]?.getD undef = .int .i64 (3) := hk 9 (by rfl)
              go_simp
              exact ⟨rfl, Below.refl _ _⟩
            · injection ho with ho; subst ho
              refine .inl ⟨wanted_free rfl, ?_⟩
              have h9 : A.tmps[9]?.getD undef = .int .i64 (3) := hk 9 (by rfl)
              go_simp
              exact ⟨rfl, Below.refl _ _⟩
            · injection ho with ho; subst ho
              refine .inl ⟨wanted_free rfl, ?_⟩
              have h3 : A.tmps[3]?.getD undef = .pointer (some ⟨w.heap.size, 0, none⟩) := hk 3 (by rfl)
              go_simp
              exact ⟨rfl, Below.refl _ _⟩
            · injection ho with ho; subst ho
              refine .inl ⟨wanted_free rfl, ?_⟩
              have h39 : A.tmps[39]?.getD undef = .pointer (some ⟨w.heap.size, 16, none⟩) := he 2 (by kernel_rfl) (by rfl)
              have h38 : A.tmps[38]?.getD undef = .int .i64 (3) := he 1 (by kernel_rfl) (by rfl)
              go_simp
              exact ⟨rfl, Below.refl _ _⟩
            · obtain rfl : j = 0 := Nat.le_zero.1 hj
              have hMs : FnD w (drelK (V) 3) (S) zero48 zero4 W := hMj
              injection ho with ho; subst ho
              refine .inl ⟨wanted_free rfl, ?_⟩
              have h40 : A.tmps[40]?.getD undef = .pointer (some ⟨w.heap.size, 40, none⟩) := he 3 (by kernel_rfl) (by rfl)
              exact y_load (cs := vwC ((drelK (V) 3) 5)) rfl h40 (vs_range (V := drelK (V) 3) (hMs.at3) (5) _ (by omega) rfl) Try.underlying30 rfl rvSize
            · injection ho with ho; subst ho
              refine .inl ⟨wanted_free rfl, ?_⟩
              have h3 : A.tmps[3]?.getD undef = .pointer (some ⟨w.heap.size, 0, none⟩) := hk 3 (by rfl)
              go_simp
              exact ⟨rfl, Below.refl _ _⟩
            · obtain rfl : j = 0 := Nat.le_zero.1 hj
              have hMs : FnD w (drelK (V) 3) (S) zero48 zero4 W := hMj
              injection ho with ho; subst ho
              refine .inl ⟨wanted_free rfl, ?_⟩
              have h42 : A.tmps[42]?.getD undef = .pointer (some ⟨w.heap.size, 0, none⟩) := he 5 (by kernel_rfl) (by rfl)
              exact y_load (cs := vwC ((drelK (V) 3) 0)) rfl h42 (vs_range (V := drelK (V) 3) (hMs.at3) (0) _ (by omega) rfl) Try.underlying30 rfl rvSize
            · obtain rfl : j = 0 := Nat.le_zero.1 hj
              have hMs : FnD w (drelK (V) 3) (S) zero48 zero4 W := hMj
              injection ho with ho; subst ho
              refine .inl ⟨wanted_free rfl, ?_⟩
              have h41 : A.tmps[41]?.getD undef = .agg (vwC ((drelK (V) 3) 5)) := he 4 (by kernel_rfl) (by rfl)
              have h43 : A.tmps[43]?.getD undef = .agg (vwC ((drelK (V) 3) 0)) := he 6 (by kernel_rfl) (by rfl)
              go_simp
              refine Calls.mono (djoin_any ((drelK (V) 3) 5) ((drelK (V) 3) 0) W) ?_
              rintro e' w' ⟨rfl, hb⟩
              exact ⟨_, rfl, rfl, hb⟩
            · injection ho with ho; subst ho
              refine .inl ⟨wanted_free rfl, ?_⟩
              have h3 : A.tmps[3]?.getD undef = .pointer (some ⟨w.heap.size, 0, none⟩) := hk 3 (by rfl)
              go_simp
              exact ⟨rfl, Below.refl _ _⟩
            · injection ho with ho; subst ho
              refine .inl ⟨wanted_free rfl, ?_⟩
              have h45 : A.tmps[45]?.getD undef = .pointer (some ⟨w.heap.size, 16, none⟩) := he 8 (by kernel_rfl) (by rfl)
              have h37 : A.tmps[37]?.getD undef = .int .i64 (3) := he 0 (by kernel_rfl) (by rfl)
              go_simp
              exact ⟨rfl, Below.refl _ _⟩
            · exact absurd hc (by decide)
          · intro j i o hji ho A W hz hMj hk he
            rcases j with _ | j
            · obtain rfl : 10 = i := Option.some.inj hji
              injection ho with ho; subst ho
              refine .inl ⟨wanted_free rfl, ?_⟩
              have hMs : FnD w (drelK (V) 3) (S) zero48 zero4 W := hMj
              have h46 : A.tmps[46]?.getD undef = .pointer (some ⟨w.heap.size, 40, none⟩) := he 9 (by kernel_rfl) (by rfl)
              have h44 : A.tmps[44]?.getD undef = .agg (vwC (maxF ((drelK (V) 3) 5) ((drelK (V) 3) 0))) := he 7 (by kernel_rfl) (by rfl)
              exact y_storeK rfl h46 h44 hMs.at3 (k := 5) (by omega) rfl rvSize (by have := HX3.out.grow; omega) (fun _ _ => trivial) (hMs.setK 5 _ _ rfl)
            · simp at hji
          · intro xs W hz hMe hV
            have hMe : FnD w (drelK (V) 4) (S) zero48 zero4 W := hMe
            simp only [putM, Act.put, List.setIfInBounds_toArray, List.set_cons_zero, List.set_cons_succ, Nat.zero_add, Nat.reduceAdd]
            clear hV
            generalize W = X4 at hMe ⊢
            have HX4 := Lib.hid hMe
            clear hMe hz HX3
            have HR := Lib.hid (HX4.out.views (drelK_4 (V)))
            clear HX4
            go_upto_region 22 with (fail)
            refine wp_flowM [some 95, some 96, none, none, some 8] [2, 3] [0, 1, 0, 0, 2] [eqV (.agg (vsC (relV V))), eqV (arr (S)), fun _ _ => True, fun _ _ => True, eqV (.bool true)] (fun j W => match j with | 0 => FnD w (relV V) (S) (zero48) (zero4) W | 1 => FnD w (relV V) (S) (vsC (relV V)) (zero4) W | _ => FnD w (relV V) (S) (vsC (relV V)) (arrC (S)) W) (by kernel_rfl) (by kernel_rfl) (by kernel_rfl) (by rfl)
              (by simp only [List.mem_cons, List.not_mem_nil, or_false, forall_eq_or_imp, forall_eq]; refine ⟨?_, ?_, ?_, ?_, ?_⟩ <;> (first | exact eqV_monoB _ _ | exact rowB_mono _ _ _ _ | exact true_monoB _))
              (fun j W W' h hb => by rcases j with _ | _ | j <;> first | exact (FnD.grown h hb)) (HR.out) ?_ ?_ ?_
            · intro i o hi ho hc j A W hj hz hMj hk he
              simp only [List.length_cons, List.length_nil, Nat.zero_add, Nat.reduceAdd] at hi
              obtain rfl | rfl | rfl | rfl | rfl : i = 0 ∨ i = 1 ∨ i = 2 ∨ i = 3 ∨ i = 4 := by omega
              · obtain rfl : j = 0 := Nat.le_zero.1 hj
                have hMs : FnD w (relV V) (S) (zero48) (zero4) W := hMj
                injection ho with ho; subst ho
                refine .inl ⟨wanted_free rfl, ?_⟩
                have h3 : A.tmps[3]?.getD undef = .pointer (some ⟨w.heap.size, 0, none⟩) := hk 3 (by rfl)
                exact y_load (cs := vsC (relV V)) rfl h3 (sits_range (hMs.at3)) Try.underlying33 rfl rsSize
              · have hj2 : j ≤ 1 := hj
                rcases j with _ | _ | j
                · have hMs : FnD w (relV V) (S) (zero48) (zero4) W := hMj
                  injection ho with ho; subst ho
                  refine .inl ⟨wanted_free rfl, ?_⟩
                  have h5 : A.tmps[5]?.getD undef = .pointer (some ⟨w.heap.size + 1, 0, none⟩) := hk 5 (by rfl)
                  have c0 := (hMs.at5).cell 0
                  have c1 := (hMs.at5).cell 1
                  have c2 := (hMs.at5).cell 2
                  have c3 := (hMs.at5).cell 3
                  go_simp
                  exact ⟨rfl, Below.refl _ _⟩
                · have hMs : FnD w (relV V) (S) (vsC (relV V)) (zero4) W := hMj
                  injection ho with ho; subst ho
                  refine .inl ⟨wanted_free rfl, ?_⟩
                  have h5 : A.tmps[5]?.getD undef = .pointer (some ⟨w.heap.size + 1, 0, none⟩) := hk 5 (by rfl)
                  have c0 := (hMs.at5).cell 0
                  have c1 := (hMs.at5).cell 1
                  have c2 := (hMs.at5).cell 2
                  have c3 := (hMs.at5).cell 3
                  go_simp
                  exact ⟨rfl, Below.refl _ _⟩
                · omega
              · exact absurd hc (by decide)
              · exact absurd hc (by decide)
              · injection ho with ho; subst ho
                refine .inl ⟨wanted_free rfl, ?_⟩
                go_simp
                exact ⟨rfl, Below.refl _ _⟩
            · intro j i o hji ho A W hz hMj hk he
              rcases j with _ | _ | j
              · obtain rfl : 2 = i := Option.some.inj hji
                injection ho with ho; subst ho
                refine .inl ⟨wanted_free rfl, ?_⟩
                have hMs : FnD w (relV V) (S) (zero48) (zero4) W := hMj
                have h6 : A.tmps[6]?.getD undef = .pointer (some ⟨w.heap.size + 1 + 1, 0, none⟩) := hk 6 (by rfl)
                have h95 : A.tmps[95]?.getD undef = .agg (vsC (relV V)) := he 0 (by kernel_rfl) (by rfl)
                exact y_store rfl h6 h95 hMs.at6 (by rw [vsC_size]; exact rsSize) (zero48_size.trans (vsC_size _).symm) (vsC_one _) (by have := HR.out.grow; omega) (fun _ _ => trivial) (hMs.out _)
              · obtain rfl : 3 = i := Option.some.inj hji
                injection ho with ho; subst ho
                refine .inl ⟨wanted_free rfl, ?_⟩
                have hMs : FnD w (relV V) (S) (vsC (relV V)) (zero4) W := hMj
                have h7 : A.tmps[7]?.getD undef = .pointer (some ⟨w.heap.size + 1 + 1 + 1, 0, none⟩) := hk 7 (by rfl)
                have h96 : A.tmps[96]?.getD undef = arr (S) := he 1 (by kernel_rfl) (by rfl)
                exact y_store (cells := arrC (S)) rfl h7 h96 hMs.at7 arrSize rfl (four_one _ _ _ _) (by have := HR.out.grow; omega) (fun _ _ => trivial) (hMs.out2 _)
              · simp at hji
            · intro xs W hz hMe hV
              have hMe : FnD w (relV V) (S) (vsC (relV V)) (arrC (S)) W := hMe
              have e8 : xs 4 = .bool true := hV 4 (by simp) rfl
              simp only [putM, Act.put, List.setIfInBounds_toArray, List.set_cons_zero, List.set_cons_succ, Nat.zero_add, Nat.reduceAdd, e8]
              clear hV e8
              generalize W = W4 at hMe ⊢
              have HY := Lib.hid hMe
              clear hMe hz HR
              go_wp2_with fail
              exact bodyPost_ret (v := .tuple #[.agg (vsC (relV V)), arr (S), .bool true]) (dresult_sab Try.results7 rfl rfl rfl HY.out.at6 HY.out.at7) rfl ⟨by rw [hv.out, hs.out, hk.out], HY.out.low⟩
  by_cases h5 : mo = 5
  ·
    subst h5
    clear q1 q2 h3 h4
    have hv : Hid (fenceV V S 5 = relV (acqV V)) := Lib.hid rfl
    have hs : Hid (fenceS V S 5 = S) := Lib.hid rfl
    have hk : Hid (fenceOk 5 = true) := Lib.hid rfl
    go_enter Try.func7, Try.ntmps7
    go_upto_region 1 with (fail)
    generalize (((w.alloc (.cells (vsC V) 33)).alloc (.cells (arrC S) 24)).alloc (.cells zero48 33)).alloc (.cells zero4 24) = w0 at HB ⊢
    go_upto_region 4 with (fail)
    refine wp_flowS1 [some 23, some 24, some 25, some 26, some 27, some 28, none] [6] [0, 0, 0, 0, 0, 0, 0] [eqV (.pointer (some ⟨w.heap.size, 0, none⟩)), eqV (.agg (vwC (V 0))), eqV (.pointer (some ⟨w.heap.size, 8, none⟩)), eqV (.agg (vwC (V 1))), eqV (.agg (vwC (maxF (V 0) (V 1)))), eqV (.pointer (some ⟨w.heap.size, 0, none⟩)), fun _ _ => True] (fun j W => match j with | 0 => FnD w (V) (S) zero48 zero4 W | _ => FnD w (acqV V) (S) zero48 zero4 W) (by kernel_rfl) (by kernel_rfl) (by kernel_rfl) (by rfl)
      (by simp only [List.mem_cons, List.not_mem_nil, or_false, forall_eq_or_imp, forall_eq]; refine ⟨?_, ?_, ?_, ?_, ?_, ?_, ?_⟩ <;> (first | exact eqV_monoB _ _ | exact rowB_mono _ _ _ _ | exact true_monoB _))
      (fun j W W' h hb => by rcases j with _ | j <;> first | exact (FnD.grown h hb)) (HB.out) ?_ ?_ ?_
    · intro i o hi ho hc j A W hj hz hMj hk he
      simp only [List.length_cons, List.length_nil, Nat.zero_add, Nat.reduceAdd] at hi
      obtain rfl | rfl | rfl | rfl | rfl | rfl | rfl : i = 0 ∨ i = 1 ∨ i = 2 ∨ i = 3 ∨ i = 4 ∨ i = 5 ∨ i = 6 := by omega
      · injection ho with ho; subst ho
        refine .inl ⟨wanted_free rfl, ?_⟩
        have h3 : A.tmps[3]?.getD undef = .pointer (some ⟨w.heap.size, 0, none⟩) := hk 3 (by rfl)
        go_simp
        exact ⟨rfl, Below.refl _ _⟩
      · obtain rfl : j = 0 := hj
        have hMs : FnD w (V) (S) zero48 zero4 W := hMj
        injection ho with ho; subst ho
        refine .inl ⟨wanted_free rfl, ?_⟩
        have h23 : A.tmps[23]?.getD undef = .pointer (some ⟨w.heap.size, 0, none⟩) := he 0 (by kernel_rfl) (by rfl)
        exact y_load (cs := vwC (V 0)) rfl h23 (vs_range (V := V) (hMs.at3) (0) _ (by omega) rfl) Try.underlying30 rfl rvSize
      · injection ho with ho; subst ho
        refine .inl ⟨wanted_free rfl, ?_⟩
        have h3 : A.tmps[3]?.getD undef = .pointer (some ⟨w.heap.size, 0, none⟩) := hk 3 (by rfl)
        go_simp
        exact ⟨rfl, Below.refl _ _⟩
      · obtain rfl : j = 0 := hj
        have hMs : FnD w (V) (S) zero48 zero4 W := hMj
        injection ho with ho; subst ho
        refine .inl ⟨wanted_free rfl, ?_⟩
        have h25 : A.tmps[25]?.getD undef = .pointer (some ⟨w.heap.size, 8, none⟩) := he 2 (by kernel_rfl) (by rfl)
        exact y_load (cs := vwC (V 1)) rfl h25 (vs_range (V := V) (hMs.at3) (1) _ (by omega) rfl) Try.underlying30 rfl rvSize
      · obtain rfl : j = 0 := hj
        have hMs : FnD w (V) (S) zero48 zero4 W := hMj
        injection ho with ho; subst ho
        refine .inl ⟨wanted_free rfl, ?_⟩
        have h24 : A.tmps[24]?.getD undef = .agg (vwC (V 0)) := he 1 (by kernel_rfl) (by rfl)
        have h26 : A.tmps[26]?.getD undef = .agg (vwC (V 1)) := he 3 (by kernel_rfl) (by rfl)
        go_simp
        refine Calls.mono (djoin_any (V 0) (V 1) W) ?_
        rintro e' w' ⟨rfl, hb⟩
        exact ⟨_, rfl, rfl, hb⟩
      · injection ho with ho; subst ho
        refine .inl ⟨wanted_free rfl, ?_⟩
        have h3 : A.tmps[3]?.getD undef = .pointer (some ⟨w.heap.size, 0, none⟩) := hk 3 (by rfl)
        go_simp
        exact ⟨rfl, Below.refl _ _⟩
      · exact absurd hc (by decide)
    · intro j i o hji ho A W hz hMj hk he
      rcases j with _ | j
      · obtain rfl : 6 = i := Option.some.inj hji
        injection ho with ho; subst ho
        refine .inl ⟨wanted_free rfl, ?_⟩
        have hMs : FnD w (V) (S) zero48 zero4 W := hMj
        have h28 : A.tmps[28]?.getD undef = .pointer (some ⟨w.heap.size, 0, none⟩) := he 5 (by kernel_rfl) (by rfl)
        have h27 : A.tmps[27]?.getD undef = .agg (vwC (maxF (V 0) (V 1))) := he 4 (by kernel_rfl) (by rfl)
        exact y_storeK rfl h28 h27 hMs.at3 (k := 0) (by omega) rfl rvSize (by have := HB.out.grow; omega) (fun _ _ => trivial) (by have h := hMs.setK 0 _ (maxF (V 0) (V 1)) rfl; rwa [acq_same] at h)
      · simp at hji
    · intro xs W hz hMe hV
      have hMe : FnD w (acqV V) (S) zero48 zero4 W := hMe
      simp only [putM, Act.put, List.setIfInBounds_toArray, List.set_cons_zero, List.set_cons_succ, Nat.zero_add, Nat.reduceAdd]
      clear hV
      generalize W = X1 at hMe ⊢
      have HX1 := Lib.hid hMe
      clear hMe hz HB
      go_wp2_with fail
      refine wp_loop_rounds 5 ?_
      simp only [Code.rounds]
      go_upto_region 8 with (fail)
      refine wp_flowM [some 37, some 38, some 39, some 40, some 41, some 42, some 43, some 44, some 45, some 46, none] [10] [0, 0, 0, 0, 0, 0, 0, 0, 1, 0, 0] [eqV (.int .i64 (0)), eqV (.int .i64 (0)), eqV (.pointer (some ⟨w.heap.size, 16, none⟩)), eqV (.pointer (some ⟨w.heap.size, 16, none⟩)), eqV (.agg (vwC ((acqV V) 2))), eqV (.pointer (some ⟨w.heap.size, 0, none⟩)), eqV (.agg (vwC ((acqV V) 0))), eqV (.agg (vwC (maxF ((acqV V) 2) ((acqV V) 0)))), eqV (.pointer (some ⟨w.heap.size, 16, none⟩)), eqV (.pointer (some ⟨w.heap.size, 16, none⟩)), fun _ _ => True] (fun j W => match j with | 0 => FnD w (acqV V) (S) zero48 zero4 W | _ => FnD w (drelK (acqV V) 1) (S) zero48 zero4 W) (by kernel_rfl) (by kernel_rfl) (by kernel_rfl) (by rfl)
        (by simp only [List.mem_cons, List.not_mem_nil, or_false, forall_eq_or_imp, forall_eq]; refine ⟨?_, ?_, ?_, ?_, ?_, ?_, ?_, ?_, ?_, ?_, ?_⟩ <;> (first | exact eqV_monoB _ _ | exact rowB_mono _ _ _ _ | exact true_monoB _))
        (fun j W W' h hb => by rcases j with _ | j <;> first | exact (FnD.grown h hb)) (HX1.out) ?_ ?_ ?_
      · intro i o hi ho hc j A W hj hz hMj hk he
        simp only [List.length_cons, List.length_nil, Nat.zero_add, Nat.reduceAdd] at hi
        obtain rfl | rfl | rfl | rfl | rfl | rfl | rfl | rfl | rfl | rfl | rfl : i = 0 ∨ i = 1 ∨ i = 2 ∨ i = 3 ∨ i = 4 ∨ i = 5 ∨ i = 6 ∨ i = 7 ∨ i = 8 ∨ i = 9 ∨ i = 10 := by omega
        · injection ho with ho; subst ho
          refine .inl ⟨wanted_free rfl, ?_⟩
          have h9 : A.tmps[9]?.getD undef = .int .i64 (0) := hk 9 (by rfl)
          go_simp
          exact ⟨rfl, Below.refl _ _⟩
        · injection ho with ho; subst ho
          refine .inl ⟨wanted_free rfl, ?_⟩
          have h9 : A.tmps[9]?.getD undef = .int .i64 (0) := hk 9 (by rfl)
          go_simp
          exact ⟨rfl, Below.refl _ _⟩
        · injection ho with ho; subst ho
          refine .inl ⟨wanted_free rfl, ?_⟩
          have h3 : A.tmps[3]?.getD undef = .pointer (some ⟨w.heap.size, 0, none⟩) := hk 3 (by rfl)
          go_simp
          exact ⟨rfl, Below.refl _ _⟩
        · injection ho with ho; subst ho
          refine .inl ⟨wanted_free rfl, ?_⟩
          have h39 : A.tmps[39]?.getD undef = .pointer (some ⟨w.heap.size, 16, none⟩) := he 2 (by kernel_rfl) (by rfl)
          have h38 : A.tmps[38]?.getD undef = .int .i64 (0) := he 1 (by kernel_rfl) (by rfl)
          go_simp
          exact ⟨rfl, Below.refl _ _⟩
        · obtain rfl : j = 0 := Nat.le_zero.1 hj
          have hMs : FnD w (acqV V) (S) zero48 zero4 W := hMj
          injection ho with ho; subst ho
          refine .inl ⟨wanted_free rfl, ?_⟩
          have h40 : A.tmps[40]?.getD undef = .pointer (some ⟨w.heap.size, 16, none⟩) := he 3 (by kernel_rfl) (by rfl)
          exact y_load (cs := vwC ((acqV V) 2)) rfl h40 (vs_range (V := acqV V) (hMs.at3) (2) _ (by omega) rfl) Try.underlying30 rfl rvSize
        · injection ho with ho; subst ho
          refine .inl ⟨wanted_free rfl, ?_⟩
          have h3 : A.tmps[3]?.getD undef = .pointer (some ⟨w.heap.size, 0, none⟩) := hk 3 (by rfl)
          go_simp
          exact ⟨rfl, Below.refl _ _⟩
        · obtain rfl : j = 0 := Nat.le_zero.1 hj
          have hMs : FnD w (acqV V) (S) zero48 zero4 W := hMj
          injection ho with ho; subst ho
          refine .inl ⟨wanted_free rfl, ?_⟩
          have h42 : A.tmps[42]?.getD undef = .pointer (some ⟨w.heap.size, 0, none⟩) := he 5 (by kernel_rfl) (by rfl)
          exact y_load (cs := vwC ((acqV V) 0)) rfl h42 (vs_range (V := acqV V) (hMs.at3) (0) _ (by omega) rfl) Try.underlying30 rfl rvSize
        · obtain rfl : j = 0 := Nat.le_zero.1 hj
          have hMs : FnD w (acqV V) (S) zero48 zero4 W := hMj
          injection ho with ho; subst ho
          refine .inl ⟨wanted_free rfl, ?_⟩
          have h41 : A.tmps[41]?.getD undef = .agg (vwC ((acqV V) 2)) := he 4 (by kernel_rfl) (by rfl)
          have h43 : A.tmps[43]?.getD undef = .agg (vwC ((acqV V) 0)) := he 6 (by kernel_rfl) (by rfl)
          go_simp
          refine Calls.mono (djoin_any ((acqV V) 2) ((acqV V) 0) W) ?_
          rintro e' w' ⟨rfl, hb⟩
          exact ⟨_, rfl, rfl, hb⟩
        · injection ho with ho; subst ho
          refine .inl ⟨wanted_free rfl, ?_⟩
          have h3 : A.tmps[3]?.getD undef = .pointer (some ⟨w.heap.size, 0, none⟩) := hk 3 (by rfl)
          go_simp
          exact ⟨rfl, Below.refl _ _⟩
        · injection ho with ho; subst ho
          refine .inl ⟨wanted_free rfl, ?_⟩
          have h45 : A.tmps[45]?.getD undef = .pointer (some ⟨w.heap.size, 16, none⟩) := he 8 (by kernel_rfl) (by rfl)
          have h37 : A.tmps[37]?.getD undef = .int .i64 (0) := he 0 (by kernel_rfl) (by rfl)
          go_simp
          exact ⟨rfl, Below.refl _ _⟩
        · exact absurd hc (by decide)
      · intro j i o hji ho A W hz hMj hk he
        rcases j with _ | j
        · obtain rfl : 10 = i := Option.some.inj hji
          injection ho with ho; subst ho
          refine .inl ⟨wanted_free rfl, ?_⟩
          have hMs : FnD w (acqV V) (S) zero48 zero4 W := hMj
          have h46 : A.tmps[46]?.getD undef = .pointer (some ⟨w.heap.size, 16, none⟩) := he 9 (by kernel_rfl) (by rfl)
          have h44 : A.tmps[44]?.getD undef = .agg (vwC (maxF ((acqV V) 2) ((acqV V) 0))) := he 7 (by kernel_rfl) (by rfl)
          exact y_storeK rfl h46 h44 hMs.at3 (k := 2) (by omega) rfl rvSize (by have := HX1.out.grow; omega) (fun _ _ => trivial) (hMs.setK 2 _ _ rfl)
        · simp at hji
      · intro xs W hz hMe hV
        have hMe : FnD w (drelK (acqV V) 1) (S) zero48 zero4 W := hMe
        simp only [putM, Act.put, List.setIfInBounds_toArray, List.set_cons_zero, List.set_cons_succ, Nat.zero_add, Nat.reduceAdd]
        clear hV
        generalize W = X2 at hMe ⊢
        have HX2 := Lib.hid hMe
        clear hMe hz HX1
        go_upto_region 8 with (fail)
        refine wp_flowM [some 37, some 38, some 39, some 40, some 41, some 42, some 43, some 44, some 45, some 46, none] [10] [0, 0, 0, 0, 0, 0, 0, 0, 1, 0, 0] [eqV (.int .i64 (1)), eqV (.int .i64 (1)), eqV (.pointer (some ⟨w.heap.size, 16, none⟩)), eqV (.pointer (some ⟨w.heap.size, 24, none⟩)), eqV (.agg (vwC ((drelK (acqV V) 1) 3))), eqV (.pointer (some ⟨w.heap.size, 0, none⟩)), eqV (.agg (vwC ((drelK (acqV V) 1) 0))), eqV (.agg (vwC (maxF ((drelK (acqV V) 1) 3) ((drelK (acqV V) 1) 0)))), eqV (.pointer (some ⟨w.heap.size, 16, none⟩)), eqV (.pointer (some ⟨w.heap.size, 24, none⟩)), fun _ _ => True] (fun j W => match j with | 0 => FnD w (drelK (acqV V) 1) (S) zero48 zero4 W | _ => FnD w (drelK (acqV V) 2) (S) zero48 zero4 W) (by kernel_rfl) (by kernel_rfl) (by kernel_rfl) (by rfl)
          (by simp only [List.mem_cons, List.not_mem_nil, or_false, forall_eq_or_imp, forall_eq]; refine ⟨?_, ?_, ?_, ?_, ?_, ?_, ?_, ?_, ?_, ?_, ?_⟩ <;> (first | exact eqV_monoB _ _ | exact rowB_mono _ _ _ _ | exact true_monoB _))
          (fun j W W' h hb => by rcases j with _ | j <;> first | exact (FnD.grown h hb)) (HX2.out) ?_ ?_ ?_
        · intro i o hi ho hc j A W hj hz hMj hk he
          simp only [List.length_cons, List.length_nil, Nat.zero_add, Nat.reduceAdd] at hi
          obtain rfl | rfl | rfl | rfl | rfl | rfl | rfl | rfl | rfl | rfl | rfl : i = 0 ∨ i = 1 ∨ i = 2 ∨ i = 3 ∨ i = 4 ∨ i = 5 ∨ i = 6 ∨ i = 7 ∨ i = 8 ∨ i = 9 ∨ i = 10 := by omega
          · injection ho with ho; subst ho
            refine .inl ⟨wanted_free rfl, ?_⟩
            have h9 : A.tmps[9]?.getD undef = .int .i64 (1) := hk 9 (by rfl)
            go_simp
            exact ⟨rfl, Below.refl _ _⟩
          · injection ho with ho; subst ho
            refine .inl ⟨wanted_free rfl, ?_⟩
            have h9 : A.tmps[9]?.getD undef = .int .i64 (1) := hk 9 (by rfl)
            go_simp
            exact ⟨rfl, Below.refl _ _⟩
          · injection ho with ho; subst ho
            refine .inl ⟨wanted_free rfl, ?_⟩
            have h3 : A.tmps[3]?.getD undef = .pointer (some ⟨w.heap.size, 0, none⟩) := hk 3 (by rfl)
            go_simp
            exact ⟨rfl, Below.refl _ _⟩
          · injection ho with ho; subst ho
            refine .inl ⟨wanted_free rfl, ?_⟩
            have h39 : A.tmps[39]?.getD undef = .pointer (some ⟨w.heap.size, 16, none⟩) := he 2 (by kernel_rfl) (by rfl)
            have h38 : A.tmps[38]?.getD undef = .int .i64 (1) := he 1 (by kernel_rfl) (by rfl)
            go_simp
            exact ⟨rfl, Below.refl _ _⟩
          · obtain rfl : j = 0 := Nat.le_zero.1 hj
            have hMs : FnD w (drelK (acqV V) 1) (S) zero48 zero4 W := hMj
            injection ho with ho; subst ho
            refine .inl ⟨wanted_free rfl, ?_⟩
            have h40 : A.tmps[40]?.getD undef = .pointer (some ⟨w.heap.size, 24, none⟩) := he 3 (by kernel_rfl) (by rfl)
            exact y_load (cs := vwC ((drelK (acqV V) 1) 3)) rfl h40 (vs_range (V := drelK (acqV V) 1) (hMs.at3) (3) _ (by omega) rfl) Try.underlying30 rfl rvSize
          · injection ho with ho; subst ho
            refine .inl ⟨wanted_free rfl, ?_⟩
            have h3 : A.tmps[3]?.getD undef = .pointer (some ⟨w.heap.size, 0, none⟩) := hk 3 (by rfl)
            go_simp
            exact ⟨rfl, Below.refl _ _⟩
          · obtain rfl : j = 0 := Nat.le_zero.1 hj
            have hMs : FnD w (drelK (acqV V) 1) (S) zero48 zero4 W := hMj
            injection ho with ho; subst ho
            refine .inl ⟨wanted_free rfl, ?_⟩
            have h42 : A.tmps[42]?.getD undef = .pointer (some ⟨w.heap.size, 0, none⟩) := he 5 (by kernel_rfl) (by rfl)
            exact y_load (cs := vwC ((drelK (acqV V) 1) 0)) rfl h42 (vs_range (V := drelK (acqV V) 1) (hMs.at3) (0) _ (by omega) rfl) Try.underlying30 rfl rvSize
          · obtain rfl : j = 0 := Nat.le_zero.1 hj
            have hMs : FnD w (drelK (acqV V) 1) (S) zero48 zero4 W := hMj
            injection ho with ho; subst ho
            refine .inl ⟨wanted_free rfl, ?_⟩
            have h41 : A.tmps[41]?.getD undef = .agg (vwC ((drelK (acqV V) 1) 3)) := he 4 (by kernel_rfl) (by rfl)
            have h43 : A.tmps[43]?.getD undef = .agg (vwC ((drelK (acqV V) 1) 0)) := he 6 (by kernel_rfl) (by rfl)
            go_simp
            refine Calls.mono (djoin_any ((drelK (acqV V) 1) 3) ((drelK (acqV V) 1) 0) W) ?_
            rintro e' w' ⟨rfl, hb⟩
            exact ⟨_, rfl, rfl, hb⟩
          · injection ho with ho; subst ho
            refine .inl ⟨wanted_free rfl, ?_⟩
            have h3 : A.tmps[3]?.getD undef = .pointer (some ⟨w.heap.size, 0, none⟩) := hk 3 (by rfl)
            go_simp
            exact ⟨rfl, Below.refl _ _⟩
          · injection ho with ho; subst ho
            refine .inl ⟨wanted_free rfl, ?_⟩
            have h45 : A.tmps[45]?.getD undef = .pointer (some ⟨w.heap.size, 16, none⟩) := he 8 (by kernel_rfl) (by rfl)
            have h37 : A.tmps[37]?.getD undef = .int .i64 (1) := he 0 (by kernel_rfl) (by rfl)
            go_simp
            exact ⟨rfl, Below.refl _ _⟩
          · exact absurd hc (by decide)
        · intro j i o hji ho A W hz hMj hk he
          rcases j with _ | j
          · obtain rfl : 10 = i := Option.some.inj hji
            injection ho with ho; subst ho
            refine .inl ⟨wanted_free rfl, ?_⟩
            have hMs : FnD w (drelK (acqV V) 1) (S) zero48 zero4 W := hMj
            have h46 : A.tmps[46]?.getD undef = .pointer (some ⟨w.heap.size, 24, none⟩) := he 9 (by kernel_rfl) (by rfl)
            have h44 : A.tmps[44]?.getD undef = .agg (vwC (maxF ((drelK (acqV V) 1) 3) ((drelK (acqV V) 1) 0))) := he 7 (by kernel_rfl) (by rfl)
            exact y_storeK rfl h46 h44 hMs.at3 (k := 3) (by omega) rfl rvSize (by have := HX2.out.grow; omega) (fun _ _ => trivial) (hMs.setK 3 _ _ rfl)
          · simp at hji
        · intro xs W hz hMe hV
          have hMe : FnD w (drelK (acqV V) 2) (S) zero48 zero4 W := hMe
          simp only [putM, Act.put, List.setIfInBounds_toArray, List.set_cons_zero, List.set_cons_succ, Nat.zero_add, Nat.reduceAdd]
          clear hV
          generalize W = X3 at hMe ⊢
          have HX3 := Lib.hid hMe
          clear hMe hz HX2
          go_upto_region 8 with (fail)
          refine wp_flowM [some 37, some 38, some 39, some 40, some 41, some 42, some 43, some 44, some 45, some 46, none] [10] [0, 0, 0, 0, 0, 0, 0, 0, 1, 0, 0] [eqV (.int .i64 (2)), eqV (.int .i64 (2)), eqV (.pointer (some ⟨w.heap.size, 16, none⟩)), eqV (.pointer (some ⟨w.heap.size, 32, none⟩)), eqV (.agg (vwC ((drelK (acqV V) 2) 4))), eqV (.pointer (some ⟨w.heap.size, 0, none⟩)), eqV (.agg (vwC ((drelK (acqV V) 2) 0))), eqV (.agg (vwC (maxF ((drelK (acqV V) 2) 4) ((drelK (acqV V) 2) 0)))), eqV (.pointer (some ⟨w.heap.size, 16, none⟩)), eqV (.pointer (some ⟨w.heap.size, 32, none⟩)), fun _ _ => True] (fun j W => match j with | 0 => FnD w (drelK (acqV V) 2) (S) zero48 zero4 W | _ => FnD w (drelK (acqV V) 3) (S) zero48 zero4 W) (by kernel_rfl) (by kernel_rfl) (by kernel_rfl) (by rfl)
            (by simp only [List.mem_cons, List.not_mem_nil, or_false, forall_eq_or_imp, forall_eq]; refine ⟨?_, ?_, ?_, ?_, ?_, ?_, ?_, ?_, ?_, ?_, ?_⟩ <;> (first | exact eqV_monoB _ _ | exact rowB_mono _ _ _ _ | exact true_monoB _))
            (fun j W W' h hb => by rcases j with _ | j <;> first | exact (FnD.grown h hb)) (HX3.out) ?_ ?_ ?_
          · intro i o hi ho hc j A W hj hz hMj hk he
            simp only [List.length_cons, List.length_nil, Nat.zero_add, Nat.reduceAdd] at hi
            obtain rfl | rfl | rfl | rfl | rfl | rfl | rfl | rfl | rfl | rfl | rfl : i = 0 ∨ i = 1 ∨ i = 2 ∨ i = 3 ∨ i = 4 ∨ i = 5 ∨ i = 6 ∨ i = 7 ∨ i = 8 ∨ i = 9 ∨ i = 10 := by omega
            · injection ho with ho; subst ho
              refine .inl ⟨wanted_free rfl, ?_⟩
              have h9 : A.tmps[9]?.getD undef = .int .i64 (2) := hk 9 (by rfl)
              go_simp
              exact ⟨rfl, Below.refl _ _⟩
            · injection ho with ho; subst ho
              refine .inl ⟨wanted_free rfl, ?_⟩
              have h9 : A.tmps[9]?.getD undef = .int .i64 (2) := hk 9 (by rfl)
              go_simp
              exact ⟨rfl, Below.refl _ _⟩
            · injection ho with ho; subst ho
              refine .inl ⟨wanted_free rfl, ?_⟩
              have h3 : A.tmps[3]?.getD undef = .pointer (some ⟨w.heap.size, 0, none⟩) := hk 3 (by rfl)
              go_simp
              exact ⟨rfl, Below.refl _ _⟩
            · injection ho with ho; subst ho
              refine .inl ⟨wanted_free rfl, ?_⟩
              have h39 : A.tmps[39]?.getD undef = .pointer (some ⟨w.heap.size, 16, none⟩) := he 2 (by kernel_rfl) (by rfl)
              have h38 : A.tmps[38]?.getD undef = .int .i64 (2) := he 1 (by kernel_rfl) (by rfl)
              go_simp
              exact ⟨rfl, Below.refl _ _⟩
            · obtain rfl : j = 0 := Nat.le_zero.1 hj
              have hMs : FnD w (drelK (acqV V) 2) (S) zero48 zero4 W := hMj
              injection ho with ho; subst ho
              refine .inl ⟨wanted_free rfl, ?_⟩
              have h40 : A.tmps[40]?.getD undef = .pointer (some ⟨w.heap.size, 32, none⟩) := he 3 (by kernel_rfl) (by rfl)
              exact y_load (cs := vwC ((drelK (acqV V) 2) 4)) rfl h40 (vs_range (V := drelK (acqV V) 2) (hMs.at3) (4) _ (by omega) rfl) Try.underlying30 rfl rvSize
            · injection ho with ho; subst ho
              refine .inl ⟨wanted_free rfl, ?_⟩
              have h3 : A.tmps[3]?.getD undef = .pointer (some ⟨w.heap.size, 0, none⟩) := hk 3 (by rfl)
              go_simp
              exact ⟨rfl, Below.refl _ _⟩
            · obtain rfl : j = 0 := Nat.le_zero.1 hj
              have hMs : FnD w (drelK (acqV V) 2) (S) zero48 zero4 W := hMj
              injection ho with ho; subst ho
              refine .inl ⟨wanted_free rfl, ?_⟩
              have h42 : A.tmps[42]?.getD undef = .pointer (some ⟨w.heap.size, 0, none⟩) := he 5 (by kernel_rfl) (by rfl)
              exact y_load (cs := vwC ((drelK (acqV V) 2) 0)) rfl h42 (vs_range (V := drelK (acqV V) 2) (hMs.at3) (0) _ (by omega) rfl) Try.underlying30 rfl rvSize
            · obtain rfl : j = 0 := Nat.le_zero.1 hj
              have hMs : FnD w (drelK (acqV V) 2) (S) zero48 zero4 W := hMj
              injection ho with ho; subst ho
              refine .inl ⟨wanted_free rfl, ?_⟩
              have h41 : A.tmps[41]?.getD undef = .agg (vwC ((drelK (acqV V) 2) 4)) := he 4 (by kernel_rfl) (by rfl)
              have h43 : A.tmps[43]?.getD undef = .agg (vwC ((drelK (acqV V) 2) 0)) := he 6 (by kernel_rfl) (by rfl)
              go_simp
              refine Calls.mono (djoin_any ((drelK (acqV V) 2) 4) ((drelK (acqV V) 2) 0) W) ?_
              rintro e' w' ⟨rfl, hb⟩
              exact ⟨_, rfl, rfl, hb⟩
            · injection ho with ho; subst ho
              refine .inl ⟨wanted_free rfl, ?_⟩
              have h3 : A.tmps[3]?.getD undef = .pointer (some ⟨w.heap.size, 0, none⟩) := hk 3 (by rfl)
              go_simp
              exact ⟨rfl, Below.refl _ _⟩
            · injection ho with ho; subst ho
              refine .inl ⟨wanted_free rfl, ?_⟩
              have h45 : A.tmps[45]?.getD undef = .pointer (some ⟨w.heap.size, 16, none⟩) := he 8 (by kernel_rfl) (by rfl)
              have h37 : A.tmps[37]?.getD undef = .int .i64 (2) := he 0 (by kernel_rfl) (by rfl)
              go_simp
              exact ⟨rfl, Below.refl _ _⟩
            · exact absurd hc (by decide)
          · intro j i o hji ho A W hz hMj hk he
            rcases j with _ | j
            · obtain rfl : 10 = i := Option.some.inj hji
              injection ho with ho; subst ho
              refine .inl ⟨wanted_free rfl, ?_⟩
              have hMs : FnD w (drelK (acqV V) 2) (S) zero48 zero4 W := hMj
              have h46 : A.tmps[46]?.getD undef = .pointer (some ⟨w.heap.size, 32, none⟩) := he 9 (by kernel_rfl) (by rfl)
              have h44 : A.tmps[44]?.getD undef = .agg (vwC (maxF ((drelK (acqV V) 2) 4) ((drelK (acqV V) 2) 0))) := he 7 (by kernel_rfl) (by rfl)
              exact y_storeK rfl h46 h44 hMs.at3 (k := 4) (by omega) rfl rvSize (by have := HX3.out.grow; omega) (fun _ _ => trivial) (hMs.setK 4 _ _ rfl)
            · simp at hji
          · intro xs W hz hMe hV
            have hMe : FnD w (drelK (acqV V) 3) (S) zero48 zero4 W := hMe
            simp only [putM, Act.put, List.setIfInBounds_toArray, List.set_cons_zero, List.set_cons_succ, Nat.zero_add, Nat.reduceAdd]
            clear hV
            generalize W = X4 at hMe ⊢
            have HX4 := Lib.hid hMe
            clear hMe hz HX3
            go_upto_region 8 with (fail)
            refine wp_flowM [some 37, some 38, some 39, some 40, some 41, some 42, some 43, some 44, some 45, some 46, none] [10] [0, 0, 0, 0, 0, 0, 0, 0, 1, 0, 0] [eqV (.int .i64 (3)), eqV (.int .i64 (3)), eqV (.pointer (some ⟨w.heap.size, 16, none⟩)), eqV (.pointer (some ⟨w.heap.size, 40, none⟩)), eqV (.agg (vwC ((drelK (acqV V) 3) 5))), eqV (.pointer (some ⟨w.heap.size, 0, none⟩)), eqV (.agg (vwC ((drelK (acqV V) 3) 0))), eqV (.agg (vwC (maxF ((drelK (acqV V) 3) 5) ((drelK (acqV V) 3) 0)))), eqV (.pointer (some ⟨w.heap.size, 16, none⟩)), eqV (.pointer (some ⟨w.heap.size, 40, none⟩)), fun _ _ => True] (fun j W => match j with | 0 => FnD w (drelK (acqV V) 3) (S) zero48 zero4 W | _ => FnD w (drelK (acqV V) 4) (S) zero48 zero4 W) (by kernel_rfl) (by kernel_rfl) (by kernel_rfl) (by rfl)
              (by simp only [List.mem_cons, List.not_mem_nil, or_false, forall_eq_or_imp, forall_eq]; refine ⟨?_, ?_, ?_, ?_, ?_, ?_, ?_, ?_, ?_, ?_, ?_⟩ <;> (first | exact eqV_monoB _ _ | exact rowB_mono _ _ _ _ | exact true_monoB _))
              (fun j W W' h hb => by rcases j with _ | j <;> first | exact (FnD.grown h hb)) (HX4.out) ?_ ?_ ?_
            · intro i o hi ho hc j A W hj hz hMj hk he
              simp only [List.length_cons, List.length_nil, Nat.zero_add, Nat.reduceAdd] at hi
              obtain rfl | rfl | rfl | rfl | rfl | rfl | rfl | rfl | rfl | rfl | rfl : i = 0 ∨ i = 1 ∨ i = 2 ∨ i = 3 ∨ i = 4 ∨ i = 5 ∨ i = 6 ∨ i = 7 ∨ i = 8 ∨ i = 9 ∨ i = 10 := by omega
              · injection ho with ho; subst ho
                refine .inl ⟨wanted_free rfl, ?_⟩
                have h9 : A.tmps[9]?.getD undef = .int .i64 (3) := hk 9 (by rfl)
                go_simp
                exact ⟨rfl, Below.refl _ _⟩
              · injection ho with ho; subst ho
                refine .inl ⟨wanted_free rfl, ?_⟩
                have h9 : A.tmps[9]?.getD undef = .int .i64 (3) := hk 9 (by rfl)
                go_simp
                exact ⟨rfl, Below.refl _ _⟩
              · injection ho with ho; subst ho
                refine .inl ⟨wanted_free rfl, ?_⟩
                have h3 : A.tmps[3]?.getD undef = .pointer (some ⟨w.heap.size, 0, none⟩) := hk 3 (by rfl)
                go_simp
                exact ⟨rfl, Below.refl _ _⟩
              · injection ho with ho; subst ho
                refine .inl ⟨wanted_free rfl, ?_⟩
                have h39 : A.tmps[39]?.getD undef = .pointer (some ⟨w.heap.size, 16, none⟩) := he 2 (by kernel_rfl) (by rfl)
                have h38 : A.tmps[38]?.getD undef = .int .i64 (3) := he 1 (by kernel_rfl) (by rfl)
                go_simp
                exact ⟨rfl, Below.refl _ _⟩
              · obtain rfl : j = 0 := Nat.le_zero.1 hj
                have hMs : FnD w (drelK (acqV V) 3) (S) zero48 zero4 W := hMj
                injection ho with ho; subst ho
                refine .inl ⟨wanted_free rfl, ?_⟩
                have h40 : A.tmps[40]?.getD undef = .pointer (some ⟨w.heap.size, 40, none⟩) := he 3 (by kernel_rfl) (by rfl)
                exact y_load (cs := vwC ((drelK (acqV V) 3) 5)) rfl h40 (vs_range (V := drelK (acqV V) 3) (hMs.at3) (5) _ (by omega) rfl) Try.underlying30 rfl rvSize
              · injection ho with ho; subst ho
                refine .inl ⟨wanted_free rfl, ?_⟩
                have h3 : A.tmps[3]?.getD undef = .pointer (some ⟨w.heap.size, 0, none⟩) := hk 3 (by rfl)
                go_simp
                exact ⟨rfl, Below.refl _ _⟩
              · obtain rfl : j = 0 := Nat.le_zero.1 hj
                have hMs : FnD w (drelK (acqV V) 3) (S) zero48 zero4 W := hMj
                injection ho with ho; subst ho
                refine .inl ⟨wanted_free rfl, ?_⟩
                have h42 : A.tmps[42]?.getD undef = .pointer (some ⟨w.heap.size, 0, none⟩) := he 5 (by kernel_rfl) (by rfl)
                exact y_load (cs := vwC ((drelK (acqV V) 3) 0)) rfl h42 (vs_range (V := drelK (acqV V) 3) (hMs.at3) (0) _ (by omega) rfl) Try.underlying30 rfl rvSize
              · obtain rfl : j = 0 := Nat.le_zero.1 hj
                have hMs : FnD w (drelK (acqV V) 3) (S) zero48 zero4 W := hMj
                injection ho with ho; subst ho
                refine .inl ⟨wanted_free rfl, ?_⟩
                have h41 : A.tmps[41]?.getD undef = .agg (vwC ((drelK (acqV V) 3) 5)) := he 4 (by kernel_rfl) (by rfl)
                have h43 : A.tmps[43]?.getD undef = .agg (vwC ((drelK (acqV V) 3) 0)) := he 6 (by kernel_rfl) (by rfl)
                go_simp
                refine Calls.mono (djoin_any ((drelK (acqV V) 3) 5) ((drelK (acqV V) 3) 0) W) ?_
                rintro e' w' ⟨rfl, hb⟩
                exact ⟨_, rfl, rfl, hb⟩
              · injection ho with ho; subst ho
                refine .inl ⟨wanted_free rfl, ?_⟩
                have h3 : A.tmps[3]?.getD undef = .pointer (some ⟨w.heap.size, 0, none⟩) := hk 3 (by rfl)
                go_simp
                exact ⟨rfl, Below.refl _ _⟩
              · injection ho with ho; subst ho
                refine .inl ⟨wanted_free rfl, ?_⟩
                have h45 : A.tmps[45]?.getD undef = .pointer (some ⟨w.heap.size, 16, none⟩) := he 8 (by kernel_rfl) (by rfl)
                have h37 : A.tmps[37]?.getD undef = .int .i64 (3) := he 0 (by kernel_rfl) (by rfl)
                go_simp
                exact ⟨rfl, Below.refl _ _⟩
              · exact absurd hc (by decide)
            · intro j i o hji ho A W hz hMj hk he
              rcases j with _ | j
              · obtain rfl : 10 = i := Option.some.inj hji
                injection ho with ho; subst ho
                refine .inl ⟨wanted_free rfl, ?_⟩
                have hMs : FnD w (drelK (acqV V) 3) (S) zero48 zero4 W := hMj
                have h46 : A.tmps[46]?.getD undef = .pointer (some ⟨w.heap.size, 40, none⟩) := he 9 (by kernel_rfl) (by rfl)
                have h44 : A.tmps[44]?.getD undef = .agg (vwC (maxF ((drelK (acqV V) 3) 5) ((drelK (acqV V) 3) 0))) := he 7 (by kernel_rfl) (by rfl)
                exact y_storeK rfl h46 h44 hMs.at3 (k := 5) (by omega) rfl rvSize (by have := HX4.out.grow; omega) (fun _ _ => trivial) (hMs.setK 5 _ _ rfl)
              · simp at hji
            · intro xs W hz hMe hV
              have hMe : FnD w (drelK (acqV V) 4) (S) zero48 zero4 W := hMe
              simp only [putM, Act.put, List.setIfInBounds_toArray, List.set_cons_zero, List.set_cons_succ, Nat.zero_add, Nat.reduceAdd]
              clear hV
              generalize W = X5 at hMe ⊢
              have HX5 := Lib.hid hMe
              clear hMe hz HX4
              have HR := Lib.hid (HX5.out.views (drelK_4 (acqV V)))
              clear HX5
              go_upto_region 22 with (fail)
              refine wp_flowM [some 95, some 96, none, none, some 8] [2, 3] [0, 1, 0, 0, 2] [eqV (.agg (vsC (relV (acqV V)))), eqV (arr (S)), fun _ _ => True, fun _ _ => True, eqV (.bool true)] (fun j W => match j with | 0 => FnD w (relV (acqV V)) (S) (zero48) (zero4) W | 1 => FnD w (relV (acqV V)) (S) (vsC (relV (acqV V))) (zero4) W | _ => FnD w (relV (acqV V)) (S) (vsC (relV (acqV V))) (arrC (S)) W) (by kernel_rfl) (by kernel_rfl) (by kernel_rfl) (by rfl)
                (by simp only [List.mem_cons, List.not_mem_nil, or_false, forall_eq_or_imp, forall_eq]; refine ⟨?_, ?_, ?_, ?_, ?_⟩ <;> (first | exact eqV_monoB _ _ | exact rowB_mono _ _ _ _ | exact true_monoB _))
                (fun j W W' h hb => by rcases j with _ | _ | j <;> first | exact (FnD.grown h hb)) (HR.out) ?_ ?_ ?_
              · intro i o hi ho hc j A W hj hz hMj hk he
                simp only [List.length_cons, List.length_nil, Nat.zero_add, Nat.reduceAdd] at hi
                obtain rfl | rfl | rfl | rfl | rfl : i = 0 ∨ i = 1 ∨ i = 2 ∨ i = 3 ∨ i = 4 := by omega
                · obtain rfl : j = 0 := Nat.le_zero.1 hj
                  have hMs : FnD w (relV (acqV V)) (S) (zero48) (zero4) W := hMj
                  injection ho with ho; subst ho
                  refine .inl ⟨wanted_free rfl, ?_⟩
                  have h3 : A.tmps[3]?.getD undef = .pointer (some ⟨w.heap.size, 0, none⟩) := hk 3 (by rfl)
                  exact y_load (cs := vsC (relV (acqV V))) rfl h3 (sits_range (hMs.at3)) Try.underlying33 rfl rsSize
                · have hj2 : j ≤ 1 := hj
                  rcases j with _ | _ | j
                  · have hMs : FnD w (relV (acqV V)) (S) (zero48) (zero4) W := hMj
                    injection ho with ho; subst ho
                    refine .inl ⟨wanted_free rfl, ?_⟩
                    have h5 : A.tmps[5]?.getD undef = .pointer (some ⟨w.heap.size + 1, 0, none⟩) := hk 5 (by rfl)
                    have c0 := (hMs.at5).cell 0
                    have c1 := (hMs.at5).cell 1
                    have c2 := (hMs.at5).cell 2
                    have c3 := (hMs.at5).cell 3
                    go_simp
                    exact ⟨rfl, Below.refl _ _⟩
                  · have hMs : FnD w (relV (acqV V)) (S) (vsC (relV (acqV V))) (zero4) W := hMj
                    injection ho with ho; subst ho
                    refine .inl ⟨wanted_free rfl, ?_⟩
                    have h5 : A.tmps[5]?.getD undef = .pointer (some ⟨w.heap.size + 1, 0, none⟩) := hk 5 (by rfl)
                    have c0 := (hMs.at5).cell 0
                    have c1 := (hMs.at5).cell 1
                    have c2 := (hMs.at5).cell 2
                    have c3 := (hMs.at5).cell 3
                    go_simp
                    exact ⟨rfl, Below.refl _ _⟩
                  · omega
                · exact absurd hc (by decide)
                · exact absurd hc (by decide)
                · injection ho with ho; subst ho
                  refine .inl ⟨wanted_free rfl, ?_⟩
                  go_simp
                  exact ⟨rfl, Below.refl _ _⟩
              · intro j i o hji ho A W hz hMj hk he
                rcases j with _ | _ | j
                · obtain rfl : 2 = i := Option.some.inj hji
                  injection ho with ho; subst ho
                  refine .inl ⟨wanted_free rfl, ?_⟩
                  have hMs : FnD w (relV (acqV V)) (S) (zero48) (zero4) W := hMj
                  have h6 : A.tmps[6]?.getD undef = .pointer (some ⟨w.heap.size + 1 + 1, 0, none⟩) := hk 6 (by rfl)
                  have h95 : A.tmps[95]?.getD undef = .agg (vsC (relV (acqV V))) := he 0 (by kernel_rfl) (by rfl)
                  exact y_store rfl h6 h95 hMs.at6 (by rw [vsC_size]; exact rsSize) (zero48_size.trans (vsC_size _).symm) (vsC_one _) (by have := HR.out.grow; omega) (fun _ _ => trivial) (hMs.out _)
                · obtain rfl : 3 = i := Option.some.inj hji
                  injection ho with ho; subst ho
                  refine .inl ⟨wanted_free rfl, ?_⟩
                  have hMs : FnD w (relV (acqV V)) (S) (vsC (relV (acqV V))) (zero4) W := hMj
                  have h7 : A.tmps[7]?.getD undef = .pointer (some ⟨w.heap.size + 1 + 1 + 1, 0, none⟩) := hk 7 (by rfl)
                  have h96 : A.tmps[96]?.getD undef = arr (S) := he 1 (by kernel_rfl) (by rfl)
                  exact y_store (cells := arrC (S)) rfl h7 h96 hMs.at7 arrSize rfl (four_one _ _ _ _) (by have := HR.out.grow; omega) (fun _ _ => trivial) (hMs.out2 _)
                · simp at hji
              · intro xs W hz hMe hV
                have hMe : FnD w (relV (acqV V)) (S) (vsC (relV (acqV V))) (arrC (S)) W := hMe
                have e8 : xs 4 = .bool true := hV 4 (by simp) rfl
                simp only [putM, Act.put, List.setIfInBounds_toArray, List.set_cons_zero, List.set_cons_succ, Nat.zero_add, Nat.reduceAdd, e8]
                clear hV e8
                generalize W = W4 at hMe ⊢
                have HY := Lib.hid hMe
                clear hMe hz HR
                go_wp2_with fail
                exact bodyPost_ret (v := .tuple #[.agg (vsC (relV (acqV V))), arr (S), .bool true]) (dresult_sab Try.results7 rfl rfl rfl HY.out.at6 HY.out.at7) rfl ⟨by rw [hv.out, hs.out, hk.out], HY.out.low⟩
  obtain h6 : mo = 6 := by omega
  subst h6
  clear q1 q2 h3 h4 h5
  have hv : Hid (fenceV V S 6 = scV (relV (acqV V)) S) := Lib.hid rfl
  have hs : Hid (fenceS V S 6 = laterS (relV (acqV V)) S) := Lib.hid rfl
  have hk : Hid (fenceOk 6 = true) := Lib.hid rfl
  go_enter Try.func7, Try.ntmps7
  go_upto_region 1 with (fail)
  generalize (((w.alloc (.cells (vsC V) 33)).alloc (.cells (arrC S) 24)).alloc (.cells zero48 33)).alloc (.cells zero4 24) = w0 at HB ⊢
  go_upto_region 4 with (fail)
  refine wp_flowS1 [some 23, some 24, some 25, some 26, some 27, some 28, none] [6] [0, 0, 0, 0, 0, 0, 0] [eqV (.pointer (some ⟨w.heap.size, 0, none⟩)), eqV (.agg (vwC (V 0))), eqV (.pointer (some ⟨w.heap.size, 8, none⟩)), eqV (.agg (vwC (V 1))), eqV (.agg (vwC (maxF (V 0) (V 1)))), eqV (.pointer (some ⟨w.heap.size, 0, none⟩)), fun _ _ => True] (fun j W => match j with | 0 => FnD w (V) (S) zero48 zero4 W | _ => FnD w (acqV V) (S) zero48 zero4 W) (by kernel_rfl) (by kernel_rfl) (by kernel_rfl) (by rfl)
    (by simp only [List.mem_cons, List.not_mem_nil, or_false, forall_eq_or_imp, forall_eq]; refine ⟨?_, ?_, ?_, ?_, ?_, ?_, ?_⟩ <;> (first | exact eqV_monoB _ _ | exact rowB_mono _ _ _ _ | exact true_monoB _))
    (fun j W W' h hb => by rcases j with _ | j <;> first | exact (FnD.grown h hb)) (HB.out) ?_ ?_ ?_
  · intro i o hi ho hc j A W hj hz hMj hk he
    simp only [List.length_cons, List.length_nil, Nat.zero_add, Nat.reduceAdd] at hi
    obtain rfl | rfl | rfl | rfl | rfl | rfl | rfl : i = 0 ∨ i = 1 ∨ i = 2 ∨ i = 3 ∨ i = 4 ∨ i = 5 ∨ i = 6 := by omega
    · injection ho with ho; subst ho
      refine .inl ⟨wanted_free rfl, ?_⟩
      have h3 : A.tmps[3]?.getD undef = .pointer (some ⟨w.heap.size, 0, none⟩) := hk 3 (by rfl)
      go_simp
      exact ⟨rfl, Below.refl _ _⟩
    · obtain rfl : j = 0 := hj
      have hMs : FnD w (V) (S) zero48 zero4 W := hMj
      injection ho with ho; subst ho
      refine .inl ⟨wanted_free rfl, ?_⟩
      have h23 : A.tmps[23]?.getD undef = .pointer (some ⟨w.heap.size, 0, none⟩) := he 0 (by kernel_rfl) (by rfl)
      exact y_load (cs := vwC (V 0)) rfl h23 (vs_range (V := V) (hMs.at3) (0) _ (by omega) rfl) Try.underlying30 rfl rvSize
    · injection ho with ho; subst ho
      refine .inl ⟨wanted_free rfl, ?_⟩
      have h3 : A.tmps[3]?.getD undef = .pointer (some ⟨w.heap.size, 0, none⟩) := hk 3 (by rfl)
      go_simp
      exact ⟨rfl, Below.refl _ _⟩
    · obtain rfl : j = 0 := hj
      have hMs : FnD w (V) (S) zero48 zero4 W := hMj
      injection ho with ho; subst ho
      refine .inl ⟨wanted_free rfl, ?_⟩
      have h25 : A.tmps[25]?.getD undef = .pointer (some ⟨w.heap.size, 8, none⟩) := he 2 (by kernel_rfl) (by rfl)
      exact y_load (cs := vwC (V 1)) rfl h25 (vs_range (V := V) (hMs.at3) (1) _ (by omega) rfl) Try.underlying30 rfl rvSize
    · obtain rfl : j = 0 := hj
      have hMs : FnD w (V) (S) zero48 zero4 W := hMj
      injection ho with ho; subst ho
      refine .inl ⟨wanted_free rfl, ?_⟩
      have h24 : A.tmps[24]?.getD undef = .agg (vwC (V 0)) := he 1 (by kernel_rfl) (by rfl)
      have h26 : A.tmps[26]?.getD undef = .agg (vwC (V 1)) := he 3 (by kernel_rfl) (by rfl)
      go_simp
      refine Calls.mono (djoin_any (V 0) (V 1) W) ?_
      rintro e' w' ⟨rfl, hb⟩
      exact ⟨_, rfl, rfl, hb⟩
    · injection ho with ho; subst ho
      refine .inl ⟨wanted_free rfl, ?_⟩
      have h3 : A.tmps[3]?.getD undef = .pointer (some ⟨w.heap.size, 0, none⟩) := hk 3 (by rfl)
      go_simp
      exact ⟨rfl, Below.refl _ _⟩
    · exact absurd hc (by decide)
  · intro j i o hji ho A W hz hMj hk he
    rcases j with _ | j
    · obtain rfl : 6 = i := Option.some.inj hji
      injection ho with ho; subst ho
      refine .inl ⟨wanted_free rfl, ?_⟩
      have hMs : FnD w (V) (S) zero48 zero4 W := hMj
      have h28 : A.tmps[28]?.getD undef = .pointer (some ⟨w.heap.size, 0, none⟩) := he 5 (by kernel_rfl) (by rfl)
      have h27 : A.tmps[27]?.getD undef = .agg (vwC (maxF (V 0) (V 1))) := he 4 (by kernel_rfl) (by rfl)
      exact y_storeK rfl h28 h27 hMs.at3 (k := 0) (by omega) rfl rvSize (by have := HB.out.grow; omega) (fun _ _ => trivial) (by have h := hMs.setK 0 _ (maxF (V 0) (V 1)) rfl; rwa [acq_same] at h)
    · simp at hji
  · intro xs W hz hMe hV
    have hMe : FnD w (acqV V) (S) zero48 zero4 W := hMe
    simp only [putM, Act.put, List.setIfInBounds_toArray, List.set_cons_zero, List.set_cons_succ, Nat.zero_add, Nat.reduceAdd]
    clear hV
    generalize W = X1 at hMe ⊢
    have HX1 := Lib.hid hMe
    clear hMe hz HB
    go_wp2_with fail
    refine wp_loop_rounds 5 ?_
    simp only [Code.rounds]
    go_upto_region 8 with (fail)
    refine wp_flowM [some 37, some 38, some 39, some 40, some 41, some 42, some 43, some 44, some 45, some 46, none] [10] [0, 0, 0, 0, 0, 0, 0, 0, 1, 0, 0] [eqV (.int .i64 (0)), eqV (.int .i64 (0)), eqV (.pointer (some ⟨w.heap.size, 16, none⟩)), eqV (.pointer (some ⟨w.heap.size, 16, none⟩)), eqV (.agg (vwC ((acqV V) 2))), eqV (.pointer (some ⟨w.heap.size, 0, none⟩)), eqV (.agg (vwC ((acqV V) 0))), eqV (.agg (vwC (maxF ((acqV V) 2) ((acqV V) 0)))), eqV (.pointer (some ⟨w.heap.size, 16, none⟩)), eqV (.pointer (some ⟨w.heap.size, 16, none⟩)), fun _ _ => True] (fun j W => match j with | 0 => FnD w (acqV V) (S) zero48 zero4 W | _ => FnD w (drelK (acqV V) 1) (S) zero48 zero4 W) (by kernel_rfl) (by kernel_rfl) (by kernel_rfl) (by rfl)
      (by simp only [List.mem_cons, List.not_mem_nil, or_false, forall_eq_or_imp, forall_eq]; refine ⟨?_, ?_, ?_, ?_, ?_, ?_, ?_, ?_, ?_, ?_, ?_⟩ <;> (first | exact eqV_monoB _ _ | exact rowB_mono _ _ _ _ | exact true_monoB _))
      (fun j W W' h hb => by rcases j with _ | j <;> first | exact (FnD.grown h hb)) (HX1.out) ?_ ?_ ?_
    · intro i o hi ho hc j A W hj hz hMj hk he
      simp only [List.length_cons, List.length_nil, Nat.zero_add, Nat.reduceAdd] at hi
      obtain rfl | rfl | rfl | rfl | rfl | rfl | rfl | rfl | rfl | rfl | rfl : i = 0 ∨ i = 1 ∨ i = 2 ∨ i = 3 ∨ i = 4 ∨ i = 5 ∨ i = 6 ∨ i = 7 ∨ i = 8 ∨ i = 9 ∨ i = 10 := by omega
      · injection ho with ho; subst ho
        refine .inl ⟨wanted_free rfl, ?_⟩
        have h9 : A.tmps[9]?.getD undef = .int .i64 (0) := hk 9 (by rfl)
        go_simp
        exact ⟨rfl, Below.refl _ _⟩
      · injection ho with ho; subst ho
        refine .inl ⟨wanted_free rfl, ?_⟩
        have h9 : A.tmps[9]?.getD undef = .int .i64 (0) := hk 9 (by rfl)
        go_simp
        exact ⟨rfl, Below.refl _ _⟩
      · injection ho with ho; subst ho
        refine .inl ⟨wanted_free rfl, ?_⟩
        have h3 : A.tmps[3]?.getD undef = .pointer (some ⟨w.heap.size, 0, none⟩) := hk 3 (by rfl)
        go_simp
        exact ⟨rfl, Below.refl _ _⟩
      · injection ho with ho; subst ho
        refine .inl ⟨wanted_free rfl, ?_⟩
        have h39 : A.tmps[39]?.getD undef = .pointer (some ⟨w.heap.size, 16, none⟩) := he 2 (by kernel_rfl) (by rfl)
        have h38 : A.tmps[38]?.getD undef = .int .i64 (0) := he 1 (by kernel_rfl) (by rfl)
        go_simp
        exact ⟨rfl, Below.refl _ _⟩
      · obtain rfl : j = 0 := Nat.le_zero.1 hj
        have hMs : FnD w (acqV V) (S) zero48 zero4 W := hMj
        injection ho with ho; subst ho
        refine .inl ⟨wanted_free rfl, ?_⟩
        have h40 : A.tmps[40]?.getD undef = .pointer (some ⟨w.heap.size, 16, none⟩) := he 3 (by kernel_rfl) (by rfl)
        exact y_load (cs := vwC ((acqV V) 2)) rfl h40 (vs_range (V := acqV V) (hMs.at3) (2) _ (by omega) rfl) Try.underlying30 rfl rvSize
      · injection ho with ho; subst ho
        refine .inl ⟨wanted_free rfl, ?_⟩
        have h3 : A.tmps[3]?.getD undef = .pointer (some ⟨w.heap.size, 0, none⟩) := hk 3 (by rfl)
        go_simp
        exact ⟨rfl, Below.refl _ _⟩
      · obtain rfl : j = 0 := Nat.le_zero.1 hj
        have hMs : FnD w (acqV V) (S) zero48 zero4 W := hMj
        injection ho with ho; subst ho
        refine .inl ⟨wanted_free rfl, ?_⟩
        have h42 : A.tmps[42]?.getD undef = .pointer (some ⟨w.heap.size, 0, none⟩) := he 5 (by kernel_rfl) (by rfl)
        exact y_load (cs := vwC ((acqV V) 0)) rfl h42 (vs_range (V := acqV V) (hMs.at3) (0) _ (by omega) rfl) Try.underlying30 rfl rvSize
      · obtain rfl : j = 0 := Nat.le_zero.1 hj
        have hMs : FnD w (acqV V) (S) zero48 zero4 W := hMj
        injection ho with ho; subst ho
        refine .inl ⟨wanted_free rfl, ?_⟩
        have h41 : A.tmps[41]?.getD undef = .agg (vwC ((acqV V) 2)) := he 4 (by kernel_rfl) (by rfl)
        have h43 : A.tmps[43]?.getD undef = .agg (vwC ((acqV V) 0)) := he 6 (by kernel_rfl) (by rfl)
        go_simp
        refine Calls.mono (djoin_any ((acqV V) 2) ((acqV V) 0) W) ?_
        rintro e' w' ⟨rfl, hb⟩
        exact ⟨_, rfl, rfl, hb⟩
      · injection ho with ho; subst ho
        refine .inl ⟨wanted_free rfl, ?_⟩
        have h3 : A.tmps[3]?.getD undef = .pointer (some ⟨w.heap.size, 0, none⟩) := hk 3 (by rfl)
        go_simp
        exact ⟨rfl, Below.refl _ _⟩
      · injection ho with ho; subst ho
        refine .inl ⟨wanted_free rfl, ?_⟩
        have h45 : A.tmps[45]?.getD undef = .pointer (some ⟨w.heap.size, 16, none⟩) := he 8 (by kernel_rfl) (by rfl)
        have h37 : A.tmps[37]?.getD undef = .int .i64 (0) := he 0 (by kernel_rfl) (by rfl)
        go_simp
        exact ⟨rfl, Below.refl _ _⟩
      · exact absurd hc (by decide)
    · intro j i o hji ho A W hz hMj hk he
      rcases j with _ | j
      · obtain rfl : 10 = i := Option.some.inj hji
        injection ho with ho; subst ho
        refine .inl ⟨wanted_free rfl, ?_⟩
        have hMs : FnD w (acqV V) (S) zero48 zero4 W := hMj
        have h46 : A.tmps[46]?.getD undef = .pointer (some ⟨w.heap.size, 16, none⟩) := he 9 (by kernel_rfl) (by rfl)
        have h44 : A.tmps[44]?.getD undef = .agg (vwC (maxF ((acqV V) 2) ((acqV V) 0))) := he 7 (by kernel_rfl) (by rfl)
        exact y_storeK rfl h46 h44 hMs.at3 (k := 2) (by omega) rfl rvSize (by have := HX1.out.grow; omega) (fun _ _ => trivial) (hMs.setK 2 _ _ rfl)
      · simp at hji
    · intro xs W hz hMe hV
      have hMe : FnD w (drelK (acqV V) 1) (S) zero48 zero4 W := hMe
      simp only [putM, Act.put, List.setIfInBounds_toArray, List.set_cons_zero, List.set_cons_succ, Nat.zero_add, Nat.reduceAdd]
      clear hV
      generalize W = X2 at hMe ⊢
      have HX2 := Lib.hid hMe
      clear hMe hz HX1
      go_upto_region 8 with (fail)
      refine wp_flowM [some 37, some 38, some 39, some 40, some 41, some 42, some 43, some 44, some 45, some 46, none] [10] [0, 0, 0, 0, 0, 0, 0, 0, 1, 0, 0] [eqV (.int .i64 (1)), eqV (.int .i64 (1)), eqV (.pointer (some ⟨w.heap.size, 16, none⟩)), eqV (.pointer (some ⟨w.heap.size, 24, none⟩)), eqV (.agg (vwC ((drelK (acqV V) 1) 3))), eqV (.pointer (some ⟨w.heap.size, 0, none⟩)), eqV (.agg (vwC ((drelK (acqV V) 1) 0))), eqV (.agg (vwC (maxF ((drelK (acqV V) 1) 3) ((drelK (acqV V) 1) 0)))), eqV (.pointer (some ⟨w.heap.size, 16, none⟩)), eqV (.pointer (some ⟨w.heap.size, 24, none⟩)), fun _ _ => True] (fun j W => match j with | 0 => FnD w (drelK (acqV V) 1) (S) zero48 zero4 W | _ => FnD w (drelK (acqV V) 2) (S) zero48 zero4 W) (by kernel_rfl) (by kernel_rfl) (by kernel_rfl) (by rfl)
        (by simp only [List.mem_cons, List.not_mem_nil, or_false, forall_eq_or_imp, forall_eq]; refine ⟨?_, ?_, ?_, ?_, ?_, ?_, ?_, ?_, ?_, ?_, ?_⟩ <;> (first | exact eqV_monoB _ _ | exact rowB_mono _ _ _ _ | exact true_monoB _))
        (fun j W W' h hb => by rcases j with _ | j <;> first | exact (FnD.grown h hb)) (HX2.out) ?_ ?_ ?_
      · intro i o hi ho hc j A W hj hz hMj hk he
        simp only [List.length_cons, List.length_nil, Nat.zero_add, Nat.reduceAdd] at hi
        obtain rfl | rfl | rfl | rfl | rfl | rfl | rfl | rfl | rfl | rfl | rfl : i = 0 ∨ i = 1 ∨ i = 2 ∨ i = 3 ∨ i = 4 ∨ i = 5 ∨ i = 6 ∨ i = 7 ∨ i = 8 ∨ i = 9 ∨ i = 10 := by omega
        · injection ho with ho; subst ho
          refine .inl ⟨wanted_free rfl, ?_⟩
          have h9 : A.tmps[9]?.getD undef = .int .i64 (1) := hk 9 (by rfl)
          go_simp
          exact ⟨rfl, Below.refl _ _⟩
        · injection ho with ho; subst ho
          refine .inl ⟨wanted_free rfl, ?_⟩
          have h9 : A.tmps[9]?.getD undef = .int .i64 (1) := hk 9 (by rfl)
          go_simp
          exact ⟨rfl, Below.refl _ _⟩
        · injection ho with ho; subst ho
          refine .inl ⟨wanted_free rfl, ?_⟩
          have h3 : A.tmps[3]?.getD undef = .pointer (some ⟨w.heap.size, 0, none⟩) := hk 3 (by rfl)
          go_simp
          exact ⟨rfl, Below.refl _ _⟩
        · injection ho with ho; subst ho
          refine .inl ⟨wanted_free rfl, ?_⟩
          have h39 : A.tmps[39]?.getD undef = .pointer (some ⟨w.heap.size, 16, none⟩) := he 2 (by kernel_rfl) (by rfl)
          have h38 : A.tmps[38]?.getD undef = .int .i64 (1) := he 1 (by kernel_rfl) (by rfl)
          go_simp
          exact ⟨rfl, Below.refl _ _⟩
        · obtain rfl : j = 0 := Nat.le_zero.1 hj
          have hMs : FnD w (drelK (acqV V) 1) (S) zero48 zero4 W := hMj
          injection ho with ho; subst ho
          refine .inl ⟨wanted_free rfl, ?_⟩
          have h40 : A.tmps[40]?.getD undef = .pointer (some ⟨w.heap.size, 24, none⟩) := he 3 (by kernel_rfl) (by rfl)
          exact y_load (cs := vwC ((drelK (acqV V) 1) 3)) rfl h40 (vs_range (V := drelK (acqV V) 1) (hMs.at3) (3) _ (by omega) rfl) Try.underlying30 rfl rvSize
        · injection ho with ho; subst ho
          refine .inl ⟨wanted_free rfl, ?_⟩
          have h3 : A.tmps[3]?.getD undef = .pointer (some ⟨w.heap.size, 0, none⟩) := hk 3 (by rfl)
          go_simp
          exact ⟨rfl, Below.refl _ _⟩
        · obtain rfl : j = 0 := Nat.le_zero.1 hj
          have hMs : FnD w (drelK (acqV V) 1) (S) zero48 zero4 W := hMj
          injection ho with ho; subst ho
          refine .inl ⟨wanted_free rfl, ?_⟩
          have h42 : A.tmps[42]?.getD undef = .pointer (some ⟨w.heap.size, 0, none⟩) := he 5 (by kernel_rfl) (by rfl)
          exact y_load (cs := vwC ((drelK (acqV V) 1) 0)) rfl h42 (vs_range (V := drelK (acqV V) 1) (hMs.at3) (0) _ (by omega) rfl) Try.underlying30 rfl rvSize
        · obtain rfl : j = 0 := Nat.le_zero.1 hj
          have hMs : FnD w (drelK (acqV V) 1) (S) zero48 zero4 W := hMj
          injection ho with ho; subst ho
          refine .inl ⟨wanted_free rfl, ?_⟩
          have h41 : A.tmps[41]?.getD undef = .agg (vwC ((drelK (acqV V) 1) 3)) := he 4 (by kernel_rfl) (by rfl)
          have h43 : A.tmps[43]?.getD undef = .agg (vwC ((drelK (acqV V) 1) 0)) := he 6 (by kernel_rfl) (by rfl)
          go_simp
          refine Calls.mono (djoin_any ((drelK (acqV V) 1) 3) ((drelK (acqV V) 1) 0) W) ?_
          rintro e' w' ⟨rfl, hb⟩
          exact ⟨_, rfl, rfl, hb⟩
        · injection ho with ho; subst ho
          refine .inl ⟨wanted_free rfl, ?_⟩
          have h3 : A.tmps[3]?.getD undef = .pointer (some ⟨w.heap.size, 0, none⟩) := hk 3 (by rfl)
          go_simp
          exact ⟨rfl, Below.refl _ _⟩
        · injection ho with ho; subst ho
          refine .inl ⟨wanted_free rfl, ?_⟩
          have h45 : A.tmps[45]?.getD undef = .pointer (some ⟨w.heap.size, 16, none⟩) := he 8 (by kernel_rfl) (by rfl)
          have h37 : A.tmps[37]?.getD undef = .int .i64 (1) := he 0 (by kernel_rfl) (by rfl)
          go_simp
          exact ⟨rfl, Below.refl _ _⟩
        · exact absurd hc (by decide)
      · intro j i o hji ho A W hz hMj hk he
        rcases j with _ | j
        · obtain rfl : 10 = i := Option.some.inj hji
          injection ho with ho; subst ho
          refine .inl ⟨wanted_free rfl, ?_⟩
          have hMs : FnD w (drelK (acqV V) 1) (S) zero48 zero4 W := hMj
          have h46 : A.tmps[46]?.getD undef = .pointer (some ⟨w.heap.size, 24, none⟩) := he 9 (by kernel_rfl) (by rfl)
          have h44 : A.tmps[44]?.getD undef = .agg (vwC (maxF ((drelK (acqV V) 1) 3) ((drelK (acqV V) 1) 0))) := he 7 (by kernel_rfl) (by rfl)
          exact y_storeK rfl h46 h44 hMs.at3 (k := 3) (by omega) rfl rvSize (by have := HX2.out.grow; omega) (fun _ _ => trivial) (hMs.setK 3 _ _ rfl)
        · simp at hji
      · intro xs W hz hMe hV
        have hMe : FnD w (drelK (acqV V) 2) (S) zero48 zero4 W := hMe
        simp only [putM, Act.put, List.setIfInBounds_toArray, List.set_cons_zero, List.set_cons_succ, Nat.zero_add, Nat.reduceAdd]
        clear hV
        generalize W = X3 at hMe ⊢
        have HX3 := Lib.hid hMe
        clear hMe hz HX2
        go_upto_region 8 with (fail)
        refine wp_flowM [some 37, some 38, some 39, some 40, some 41, some 42, some 43, some 44, some 45, some 46, none] [10] [0, 0, 0, 0, 0, 0, 0, 0, 1, 0, 0] [eqV (.int .i64 (2)), eqV (.int .i64 (2)), eqV (.pointer (some ⟨w.heap.size, 16, none⟩)), eqV (.pointer (some ⟨w.heap.size, 32, none⟩)), eqV (.agg (vwC ((drelK (acqV V) 2) 4))), eqV (.pointer (some ⟨w.heap.size, 0, none⟩)), eqV (.agg (vwC ((drelK (acqV V) 2) 0))), eqV (.agg (vwC (maxF ((drelK (acqV V) 2) 4) ((drelK (acqV V) 2) 0)))), eqV (.pointer (some ⟨w.heap.size, 16, none⟩)), eqV (.pointer (some ⟨w.heap.size, 32, none⟩)), fun _ _ => True] (fun j W => match j with | 0 => FnD w (drelK (acqV V) 2) (S) zero48 zero4 W | _ => FnD w (drelK (acqV V) 3) (S) zero48 zero4 W) (by kernel_rfl) (by kernel_rfl) (by kernel_rfl) (by rfl)
          (by simp only [List.mem_cons, List.not_mem_nil, or_false, forall_eq_or_imp, forall_eq]; refine ⟨?_, ?_, ?_, ?_, ?_, ?_, ?_, ?_, ?_, ?_, ?_⟩ <;> (first | exact eqV_monoB _ _ | exact rowB_mono _ _ _ _ | exact true_monoB _))
          (fun j W W' h hb => by rcases j with _ | j <;> first | exact (FnD.grown h hb)) (HX3.out) ?_ ?_ ?_
        · intro i o hi ho hc j A W hj hz hMj hk he
          simp only [List.length_cons, List.length_nil, Nat.zero_add, Nat.reduceAdd] at hi
          obtain rfl | rfl | rfl | rfl | rfl | rfl | rfl | rfl | rfl | rfl | rfl : i = 0 ∨ i = 1 ∨ i = 2 ∨ i = 3 ∨ i = 4 ∨ i = 5 ∨ i = 6 ∨ i = 7 ∨ i = 8 ∨ i = 9 ∨ i = 10 := by omega
          · injection ho with ho; subst ho
            refine .inl ⟨wanted_free rfl, ?_⟩
            have h9 : A.tmps[9]?.getD undef = .int .i64 (2) := hk 9 (by rfl)
            go_simp
            exact ⟨rfl, Below.refl _ _⟩
          · injection ho with ho; subst ho
            refine .inl ⟨wanted_free rfl, ?_⟩
            have h9 : A.tmps[9]?.getD undef = .int .i64 (2) := hk 9 (by rfl)
            go_simp
            exact ⟨rfl, Below.refl _ _⟩
          · injection ho with ho; subst ho
            refine .inl ⟨wanted_free rfl, ?_⟩
            have h3 : A.tmps[3]?.getD undef = .pointer (some ⟨w.heap.size, 0, none⟩) := hk 3 (by rfl)
            go_simp
            exact ⟨rfl, Below.refl _ _⟩
          · injection ho with ho; subst ho
            refine .inl ⟨wanted_free rfl, ?_⟩
            have h39 : A.tmps[39]?.getD undef = .pointer (some ⟨w.heap.size, 16, none⟩) := he 2 (by kernel_rfl) (by rfl)
            have h38 : A.tmps[38]?.getD undef = .int .i64 (2) := he 1 (by kernel_rfl) (by rfl)
            go_simp
            exact ⟨rfl, Below.refl _ _⟩
          · obtain rfl : j = 0 := Nat.le_zero.1 hj
            have hMs : FnD w (drelK (acqV V) 2) (S) zero48 zero4 W := hMj
            injection ho with ho; subst ho
            refine .inl ⟨wanted_free rfl, ?_⟩
            have h40 : A.tmps[40]?.getD undef = .pointer (some ⟨w.heap.size, 32, none⟩) := he 3 (by kernel_rfl) (by rfl)
            exact y_load (cs := vwC ((drelK (acqV V) 2) 4)) rfl h40 (vs_range (V := drelK (acqV V) 2) (hMs.at3) (4) _ (by omega) rfl) Try.underlying30 rfl rvSize
          · injection ho with ho; subst ho
            refine .inl ⟨wanted_free rfl, ?_⟩
            have h3 : A.tmps[3]?.getD undef = .pointer (some ⟨w.heap.size, 0, none⟩) := hk 3 (by rfl)
            go_simp
            exact ⟨rfl, Below.refl _ _⟩
          · obtain rfl : j = 0 := Nat.le_zero.1 hj
            have hMs : FnD w (drelK (acqV V) 2) (S) zero48 zero4 W := hMj
            injection ho with ho; subst ho
            refine .inl ⟨wanted_free rfl, ?_⟩
            have h42 : A.tmps[42]?.getD undef = .pointer (some ⟨w.heap.size, 0, none⟩) := he 5 (by kernel_rfl) (by rfl)
            exact y_load (cs := vwC ((drelK (acqV V) 2) 0)) rfl h42 (vs_range (V := drelK (acqV V) 2) (hMs.at3) (0) _ (by omega) rfl) Try.underlying30 rfl rvSize
          · obtain rfl : j = 0 := Nat.le_zero.1 hj
            have hMs : FnD w (drelK (acqV V) 2) (S) zero48 zero4 W := hMj
            injection ho with ho; subst ho
            refine .inl ⟨wanted_free rfl, ?_⟩
            have h41 : A.tmps[41]?.getD undef = .agg (vwC ((drelK (acqV V) 2) 4)) := he 4 (by kernel_rfl) (by rfl)
            have h43 : A.tmps[43]?.getD undef = .agg (vwC ((drelK (acqV V) 2) 0)) := he 6 (by kernel_rfl) (by rfl)
            go_simp
            refine Calls.mono (djoin_any ((drelK (acqV V) 2) 4) ((drelK (acqV V) 2) 0) W) ?_
            rintro e' w' ⟨rfl, hb⟩
            exact ⟨_, rfl, rfl, hb⟩
          · injection ho with ho; subst ho
            refine .inl ⟨wanted_free rfl, ?_⟩
            have h3 : A.tmps[3]?.getD undef = .pointer (some ⟨w.heap.size, 0, none⟩) := hk 3 (by rfl)
            go_simp
            exact ⟨rfl, Below.refl _ _⟩
          · injection ho with ho; subst ho
            refine .inl ⟨wanted_free rfl, ?_⟩
            have h45 : A.tmps[45]?.getD undef = .pointer (some ⟨w.heap.size, 16, none⟩) := he 8 (by kernel_rfl) (by rfl)
            have h37 : A.tmps[37]?.getD undef = .int .i64 (2) := he 0 (by kernel_rfl) (by rfl)
            go_simp
            exact ⟨rfl, Below.refl _ _⟩
          · exact absurd hc (by decide)
        · intro j i o hji ho A W hz hMj hk he
          rcases j with _ | j
          · obtain rfl : 10 = i := Option.some.inj hji
            injection ho with ho; subst ho
            refine .inl ⟨wanted_free rfl, ?_⟩
            have hMs : FnD w (drelK (acqV V) 2) (S) zero48 zero4 W := hMj
            have h46 : A.tmps[46]?.getD undef = .pointer (some ⟨w.heap.size, 32, none⟩) := he 9 (by kernel_rfl) (by rfl)
            have h44 : A.tmps[44]?.getD undef = .agg (vwC (maxF ((drelK (acqV V) 2) 4) ((drelK (acqV V) 2) 0))) := he 7 (by kernel_rfl) (by rfl)
            exact y_storeK rfl h46 h44 hMs.at3 (k := 4) (by omega) rfl rvSize (by have := HX3.out.grow; omega) (fun _ _ => trivial) (hMs.setK 4 _ _ rfl)
          · simp at hji
        · intro xs W hz hMe hV
          have hMe : FnD w (drelK (acqV V) 3) (S) zero48 zero4 W := hMe
          simp only [putM, Act.put, List.setIfInBounds_toArray, List.set_cons_zero, List.set_cons_succ, Nat.zero_add, Nat.reduceAdd]
          clear hV
          generalize W = X4 at hMe ⊢
          have HX4 := Lib.hid hMe
          clear hMe hz HX3
          go_upto_region 8 with (fail)
          refine wp_flowM [some 37, some 38, some 39, some 40, some 41, some 42, some 43, some 44, some 45, some 46, none] [10] [0, 0, 0, 0, 0, 0, 0, 0, 1, 0, 0] [eqV (.int .i64 (3)), eqV (.int .i64 (3)), eqV (.pointer (some ⟨w.heap.size, 16, none⟩)), eqV (.pointer (some ⟨w.heap.size, 40, none⟩)), eqV (.agg (vwC ((drelK (acqV V) 3) 5))), eqV (.pointer (some ⟨w.heap.size, 0, none⟩)), eqV (.agg (vwC ((drelK (acqV V) 3) 0))), eqV (.agg (vwC (maxF ((drelK (acqV V) 3) 5) ((drelK (acqV V) 3) 0)))), eqV (.pointer (some ⟨w.heap.size, 16, none⟩)), eqV (.pointer (some ⟨w.heap.size, 40, none⟩)), fun _ _ => True] (fun j W => match j with | 0 => FnD w (drelK (acqV V) 3) (S) zero48 zero4 W | _ => FnD w (drelK (acqV V) 4) (S) zero48 zero4 W) (by kernel_rfl) (by kernel_rfl) (by kernel_rfl) (by rfl)
            (by simp only [List.mem_cons, List.not_mem_nil, or_false, forall_eq_or_imp, forall_eq]; refine ⟨?_, ?_, ?_, ?_, ?_, ?_, ?_, ?_, ?_, ?_, ?_⟩ <;> (first | exact eqV_monoB _ _ | exact rowB_mono _ _ _ _ | exact true_monoB _))
            (fun j W W' h hb => by rcases j with _ | j <;> first | exact (FnD.grown h hb)) (HX4.out) ?_ ?_ ?_
          · intro i o hi ho hc j A W hj hz hMj hk he
            simp only [List.length_cons, List.length_nil, Nat.zero_add, Nat.reduceAdd] at hi
            obtain rfl | rfl | rfl | rfl | rfl | rfl | rfl | rfl | rfl | rfl | rfl : i = 0 ∨ i = 1 ∨ i = 2 ∨ i = 3 ∨ i = 4 ∨ i = 5 ∨ i = 6 ∨ i = 7 ∨ i = 8 ∨ i = 9 ∨ i = 10 := by omega
            · injection ho with ho; subst ho
              refine .inl ⟨wanted_free rfl, ?_⟩
              have h9 : A.tmps[9]?.getD undef = .int .i64 (3) := hk 9 (by rfl)
              go_simp
              exact ⟨rfl, Below.refl _ _⟩
            · injection ho with ho; subst ho
              refine .inl ⟨wanted_free rfl, ?_⟩
              have h9 : A.tmps[9]?.getD undef = .int .i64 (3) := hk 9 (by rfl)
              go_simp
              exact ⟨rfl, Below.refl _ _⟩
            · injection ho with ho; subst ho
              refine .inl ⟨wanted_free rfl, ?_⟩
              have h3 : A.tmps[3]?.getD undef = .pointer (some ⟨w.heap.size, 0, none⟩) := hk 3 (by rfl)
              go_simp
              exact ⟨rfl, Below.refl _ _⟩
            · injection ho with ho; subst ho
              refine .inl ⟨wanted_free rfl, ?_⟩
              have h39 : A.tmps[39]?.getD undef = .pointer (some ⟨w.heap.size, 16, none⟩) := he 2 (by kernel_rfl) (by rfl)
              have h38 : A.tmps[38]?.getD undef = .int .i64 (3) := he 1 (by kernel_rfl) (by rfl)
              go_simp
              exact ⟨rfl, Below.refl _ _⟩
            · obtain rfl : j = 0 := Nat.le_zero.1 hj
              have hMs : FnD w (drelK (acqV V) 3) (S) zero48 zero4 W := hMj
              injection ho with ho; subst ho
              refine .inl ⟨wanted_free rfl, ?_⟩
              have h40 : A.tmps[40]?.getD undef = .pointer (some ⟨w.heap.size, 40, none⟩) := he 3 (by kernel_rfl) (by rfl)
              exact y_load (cs := vwC ((drelK (acqV V) 3) 5)) rfl h40 (vs_range (V := drelK (acqV V) 3) (hMs.at3) (5) _ (by omega) rfl) Try.underlying30 rfl rvSize
            · injection ho with ho; subst ho
              refine .inl ⟨wanted_free rfl, ?_⟩
              have h3 : A.tmps[3]?.getD undef = .pointer (some ⟨w.heap.size, 0, none⟩) := hk 3 (by rfl)
              go_simp
              exact ⟨rfl, Below.refl _ _⟩
            · obtain rfl : j = 0 := Nat.le_zero.1 hj
              have hMs : FnD w (drelK (acqV V) 3) (S) zero48 zero4 W := hMj
              injection ho with ho; subst ho
              refine .inl ⟨wanted_free rfl, ?_⟩
              have h42 : A.tmps[42]?.getD undef = .pointer (some ⟨w.heap.size, 0, none⟩) := he 5 (by kernel_rfl) (by rfl)
              exact y_load (cs := vwC ((drelK (acqV V) 3) 0)) rfl h42 (vs_range (V := drelK (acqV V) 3) (hMs.at3) (0) _ (by omega) rfl) Try.underlying30 rfl rvSize
            · obtain rfl : j = 0 := Nat.le_zero.1 hj
              have hMs : FnD w (drelK (acqV V) 3) (S) zero48 zero4 W := hMj
              injection ho with ho; subst ho
              refine .inl ⟨wanted_free rfl, ?_⟩
              have h41 : A.tmps[41]?.getD undef = .agg (vwC ((drelK (acqV V) 3) 5)) := he 4 (by kernel_rfl) (by rfl)
              have h43 : A.tmps[43]?.getD undef = .agg (vwC ((drelK (acqV V) 3) 0)) := he 6 (by kernel_rfl) (by rfl)
              go_simp
              refine Calls.mono (djoin_any ((drelK (acqV V) 3) 5) ((drelK (acqV V) 3) 0) W) ?_
              rintro e' w' ⟨rfl, hb⟩
              exact ⟨_, rfl, rfl, hb⟩
            · injection ho with ho; subst ho
              refine .inl ⟨wanted_free rfl, ?_⟩
              have h3 : A.tmps[3]?.getD undef = .pointer (some ⟨w.heap.size, 0, none⟩) := hk 3 (by rfl)
              go_simp
              exact ⟨rfl, Below.refl _ _⟩
            · injection ho with ho; subst ho
              refine .inl ⟨wanted_free rfl, ?_⟩
              have h45 : A.tmps[45]?.getD undef = .pointer (some ⟨w.heap.size, 16, none⟩) := he 8 (by kernel_rfl) (by rfl)
              have h37 : A.tmps[37]?.getD undef = .int .i64 (3) := he 0 (by kernel_rfl) (by rfl)
              go_simp
              exact ⟨rfl, Below.refl _ _⟩
            · exact absurd hc (by decide)
          · intro j i o hji ho A W hz hMj hk he
            rcases j with _ | j
            · obtain rfl : 10 = i := Option.some.inj hji
              injection ho with ho; subst ho
              refine .inl ⟨wanted_free rfl, ?_⟩
              have hMs : FnD w (drelK (acqV V) 3) (S) zero48 zero4 W := hMj
              have h46 : A.tmps[46]?.getD undef = .pointer (some ⟨w.heap.size, 40, none⟩) := he 9 (by kernel_rfl) (by rfl)
              have h44 : A.tmps[44]?.getD undef = .agg (vwC (maxF ((drelK (acqV V) 3) 5) ((drelK (acqV V) 3) 0))) := he 7 (by kernel_rfl) (by rfl)
              exact y_storeK rfl h46 h44 hMs.at3 (k := 5) (by omega) rfl rvSize (by have := HX4.out.grow; omega) (fun _ _ => trivial) (hMs.setK 5 _ _ rfl)
            · simp at hji
          · intro xs W hz hMe hV
            have hMe : FnD w (drelK (acqV V) 4) (S) zero48 zero4 W := hMe
            simp only [putM, Act.put, List.setIfInBounds_toArray, List.set_cons_zero, List.set_cons_succ, Nat.zero_add, Nat.reduceAdd]
            clear hV
            generalize W = X5 at hMe ⊢
            have HX5 := Lib.hid hMe
            clear hMe hz HX4
            have HR := Lib.hid (HX5.out.views (drelK_4 (acqV V)))
            clear HX5
            go_upto_region 10 with (fail)
            have H0 : Hid (FnD w (relV (acqV V)) (laterK (relV (acqV V)) S 0) zero48 zero4 X5) := Lib.hid (HR.out.same fun i _ => by simp [laterK])
            clear HR
            go_wp2_with fail
            go_loopg [10] 4 (fun gg v10 wx => ∃ k, k ≤ 4 ∧ gg = 4 - k ∧ v10 = .int .i64 (k : Nat) ∧ Hid (FnD w (relV (acqV V)) (laterK (relV (acqV V)) S k) zero48 zero4 wx))
            case atStart => exact ⟨0, by omega, by omega, rfl, H0⟩
            case round =>
              obtain ⟨k, hk4, rfl, rfl, HJ⟩ := hrel
              by_cases hlt : k < 4
              · have j1 : (k : Int) < 4 := by omega
                have j0 : (0 : Int) ≤ (k : Int) := by omega
                have HL := Lib.hid hlt
                have e1 : laterK (relV (acqV V)) S k k = S k := by unfold laterK; rw [if_neg (by omega)]
                have ca : wr.cell? ⟨w.heap.size, 4 + k, none⟩ = some (.int .i64 (relV (acqV V) 0 (k + 4))) := by rw [Nat.add_comm 4 k]; exact HJ.out.cur (k + 4) (by omega)
                have cb : wr.cell? ⟨w.heap.size + 1, k, none⟩ = some (.int .i64 (S k)) := by rw [HJ.out.at5.cell, arrC_at _ k (by omega), e1]
                have hE := Lib.hid e1
                clear e1 hk4
                by_cases g1 : S k < relV (acqV V) 0 (k + 4)
                · have f0 := HJ.out.at5.free k
                  go_upto_region 13 with (fail)
                  go_region
                  go_upto_region 12 with (fail)
                  have HK : Hid (FnD w (relV (acqV V)) (laterK (relV (acqV V)) S (k + 1)) zero48 zero4 (wr.setCell ⟨w.heap.size + 1, k, none⟩ (.int .i64 (relV (acqV V) 0 (k + 4)))).drew) := Lib.hid (((HJ.out.say k (relV (acqV V) 0 (k + 4)) HL.out).grown (Below.refl _ _).drew).same fun i hi => by
                    unfold put1 laterK
                    by_cases h : i = k
                    · subst h; rw [if_pos rfl, if_pos (by omega), laterS_at _ _ _ hi, if_pos g1]
                    · rw [if_neg h]
                      by_cases h2 : i < k
                      · rw [if_pos h2, if_pos (by omega)]
                      · rw [if_neg h2, if_neg (by omega)])
                  generalize (wr.setCell ⟨w.heap.size + 1, k, none⟩ (.int .i64 (relV (acqV V) 0 (k + 4)))).drew = W9 at HK ⊢
                  clear ca cb f0 HJ
                  go_wp2_with fail
                  go_roundg (4 - (k + 1))
                  case measure => have := HL.out; omega
                  case rel => exact ⟨k + 1, by have := HL.out; omega, rfl, by go_num, HK⟩
                · go_upto_region 13 with (fail)
                  go_region
                  go_upto_region 12 with (fail)
                  have HK : Hid (FnD w (relV (acqV V)) (laterK (relV (acqV V)) S (k + 1)) zero48 zero4 wr.drew) := Lib.hid ((HJ.out.grown (Below.refl _ _).drew).same fun i hi => by
                    unfold laterK
                    by_cases h : i = k
                    · subst h; rw [if_neg (by omega), if_pos (by omega), laterS_at _ _ _ hi, if_neg g1]
                    · by_cases h2 : i < k
                      · rw [if_pos h2, if_pos (by omega)]
                      · rw [if_neg h2, if_neg (by omega)])
                  generalize wr.drew = W9 at HK ⊢
                  clear ca cb HJ
                  go_wp2_with fail
                  go_roundg (4 - (k + 1))
                  case measure => have := HL.out; omega
                  case rel => exact ⟨k + 1, by have := HL.out; omega, rfl, by go_num, HK⟩
              · have HF : Hid (FnD w (relV (acqV V)) (laterS (relV (acqV V)) S) zero48 zero4 wr) := Lib.hid (HJ.out.same fun i hi => by unfold laterK; rw [if_pos (by omega)])
                have j1 : ¬ (k : Int) < 4 := by omega
                clear HJ
                have c0 : wr.cell? ⟨w.heap.size + 1, 0, none⟩ = some (.int .i64 (laterS (relV (acqV V)) S 0)) := HF.out.at5.cell 0
                have c1 : wr.cell? ⟨w.heap.size + 1, 1, none⟩ = some (.int .i64 (laterS (relV (acqV V)) S 1)) := HF.out.at5.cell 1
                have c2 : wr.cell? ⟨w.heap.size + 1, 2, none⟩ = some (.int .i64 (laterS (relV (acqV V)) S 2)) := HF.out.at5.cell 2
                have c3 : wr.cell? ⟨w.heap.size + 1, 3, none⟩ = some (.int .i64 (laterS (relV (acqV V)) S 3)) := HF.out.at5.cell 3
                go_upto_region 16 with (refine wpList_store_row rfl 30 _ _ rfl (wr.heap.size) (vwC (flatF (laterS (relV (acqV V)) S))) rfl rfl 30 zero8 (Sits.new _ _ _) rvSize rfl (vwC_one _) ?_)
                have HO := Lib.hid (HF.out.boxed (flatF (laterS (relV (acqV V)) S)))
                generalize (wr.alloc (.cells zero8 30)).setRow wr.heap.size (vwC (flatF (laterS (relV (acqV V)) S))) = X20 at HO ⊢
                generalize wr.heap.size = ga at HO ⊢
                clear c0 c1 c2 c3 HF
                refine wp_flowS1 [some 72, some 73, some 74, some 75, some 76, none] [5] [0, 0, 0, 0, 0, 0] [eqV (.pointer (some ⟨w.heap.size, 0, none⟩)), eqV (.agg (vwC ((relV (acqV V)) 0))), eqV (.agg (vwC (flatF (laterS (relV (acqV V)) S)))), eqV (.agg (vwC (maxF ((relV (acqV V)) 0) (flatF (laterS (relV (acqV V)) S))))), eqV (.pointer (some ⟨w.heap.size, 0, none⟩)), fun _ _ => True] (fun j W => match j with | 0 => FnDB w (relV (acqV V)) (laterS (relV (acqV V)) S) zero48 zero4 ga (flatF (laterS (relV (acqV V)) S)) W | _ => FnDB w (setV (relV (acqV V)) 0 (maxF ((relV (acqV V)) 0) (flatF (laterS (relV (acqV V)) S)))) (laterS (relV (acqV V)) S) zero48 zero4 ga (flatF (laterS (relV (acqV V)) S)) W) (by kernel_rfl) (by kernel_rfl) (by kernel_rfl) (by rfl)
                  (by simp only [List.mem_cons, List.not_mem_nil, or_false, forall_eq_or_imp, forall_eq]; refine ⟨?_, ?_, ?_, ?_, ?_, ?_⟩ <;> (first | exact eqV_monoB _ _ | exact rowB_mono _ _ _ _ | exact true_monoB _))
                  (fun j W W' h hb => by rcases j with _ | j <;> first | exact (FnDB.grown h hb)) (HO.out) ?_ ?_ ?_
                · intro i o hi ho hc j A W hj hz hMj hk he
                  simp only [List.length_cons, List.length_nil, Nat.zero_add, Nat.reduceAdd] at hi
                  obtain rfl | rfl | rfl | rfl | rfl | rfl : i = 0 ∨ i = 1 ∨ i = 2 ∨ i = 3 ∨ i = 4 ∨ i = 5 := by omega
                  · injection ho with ho; subst ho
                    refine .inl ⟨wanted_free rfl, ?_⟩
                    have h3 : A.tmps[3]?.getD undef = .pointer (some ⟨w.heap.size, 0, none⟩) := hk 3 (by rfl)
                    go_simp
                    exact ⟨rfl, Below.refl _ _⟩
                  · obtain rfl : j = 0 := hj
                    have hMs : FnDB w (relV (acqV V)) (laterS (relV (acqV V)) S) zero48 zero4 ga (flatF (laterS (relV (acqV V)) S)) W := hMj
                    injection ho with ho; subst ho
                    refine .inl ⟨wanted_free rfl, ?_⟩
                    have h72 : A.tmps[72]?.getD undef = .pointer (some ⟨w.heap.size, 0, none⟩) := he 0 (by kernel_rfl) (by rfl)
                    exact y_load (cs := vwC ((relV (acqV V)) 0)) rfl h72 (vs_range (V := relV (acqV V)) (hMs.at'.at3) (0) _ (by omega) rfl) Try.underlying30 rfl rvSize
                  · obtain rfl : j = 0 := hj
                    have hMs : FnDB w (relV (acqV V)) (laterS (relV (acqV V)) S) zero48 zero4 ga (flatF (laterS (relV (acqV V)) S)) W := hMj
                    injection ho with ho; subst ho
                    refine .inl ⟨wanted_free rfl, ?_⟩
                    have h11 : A.tmps[11]?.getD undef = .pointer (some ⟨ga, 0, none⟩) := hk 11 (by rfl)
                    exact y_load (cs := vwC (flatF (laterS (relV (acqV V)) S))) rfl h11 (sits_range (hMs.ba)) Try.underlying30 rfl rvSize
                  · obtain rfl : j = 0 := hj
                    have hMs : FnDB w (relV (acqV V)) (laterS (relV (acqV V)) S) zero48 zero4 ga (flatF (laterS (relV (acqV V)) S)) W := hMj
                    injection ho with ho; subst ho
                    refine .inl ⟨wanted_free rfl, ?_⟩
                    have h73 : A.tmps[73]?.getD undef = .agg (vwC ((relV (acqV V)) 0)) := he 1 (by kernel_rfl) (by rfl)
                    have h74 : A.tmps[74]?.getD undef = .agg (vwC (flatF (laterS (relV (acqV V)) S))) := he 2 (by kernel_rfl) (by rfl)
                    go_simp
                    refine Calls.mono (djoin_any ((relV (acqV V)) 0) (flatF (laterS (relV (acqV V)) S)) W) ?_
                    rintro e' w' ⟨rfl, hb⟩
                    exact ⟨_, rfl, rfl, hb⟩
                  · injection ho with ho; subst ho
                    refine .inl ⟨wanted_free rfl, ?_⟩
                    have h3 : A.tmps[3]?.getD undef = .pointer (some ⟨w.heap.size, 0, none⟩) := hk 3 (by rfl)
                    go_simp
                    exact ⟨rfl, Below.refl _ _⟩
                  · exact absurd hc (by decide)
                · intro j i o hji ho A W hz hMj hk he
                  rcases j with _ | j
                  · obtain rfl : 5 = i := Option.some.inj hji
                    injection ho with ho; subst ho
                    refine .inl ⟨wanted_free rfl, ?_⟩
                    have hMs : FnDB w (relV (acqV V)) (laterS (relV (acqV V)) S) zero48 zero4 ga (flatF (laterS (relV (acqV V)) S)) W := hMj
                    have h76 : A.tmps[76]?.getD undef = .pointer (some ⟨w.heap.size, 0, none⟩) := he 4 (by kernel_rfl) (by rfl)
                    have h75 : A.tmps[75]?.getD undef = .agg (vwC (maxF ((relV (acqV V)) 0) (flatF (laterS (relV (acqV V)) S)))) := he 3 (by kernel_rfl) (by rfl)
                    exact y_storeK rfl h76 h75 hMs.at'.at3 (k := 0) (by omega) rfl rvSize (by have := HO.out.at'.grow; omega) (fun _ _ => trivial) (hMs.setK 0 _ _ rfl)
                  · simp at hji
                · intro xs W hz hMe hV
                  have hMe : FnDB w (setV (relV (acqV V)) 0 (maxF ((relV (acqV V)) 0) (flatF (laterS (relV (acqV V)) S)))) (laterS (relV (acqV V)) S) zero48 zero4 ga (flatF (laterS (relV (acqV V)) S)) W := hMe
                  simp only [putM, Act.put, List.setIfInBounds_toArray, List.set_cons_zero, List.set_cons_succ, Nat.zero_add, Nat.reduceAdd]
                  clear hV
                  generalize W = X21 at hMe ⊢
                  have HX21 := Lib.hid hMe
                  clear hMe hz HO
                  go_upto_region 17 with (fail)
                  refine wp_flowS1 [some 77, some 78, some 79, some 80, some 81, none] [5] [0, 0, 0, 0, 0, 0] [eqV (.pointer (some ⟨w.heap.size, 8, none⟩)), eqV (.agg (vwC ((relV (acqV V)) 1))), eqV (.agg (vwC (flatF (laterS (relV (acqV V)) S)))), eqV (.agg (vwC (maxF ((relV (acqV V)) 1) (flatF (laterS (relV (acqV V)) S))))), eqV (.pointer (some ⟨w.heap.size, 8, none⟩)), fun _ _ => True] (fun j W => match j with | 0 => FnDB w (setV (relV (acqV V)) 0 (maxF ((relV (acqV V)) 0) (flatF (laterS (relV (acqV V)) S)))) (laterS (relV (acqV V)) S) zero48 zero4 ga (flatF (laterS (relV (acqV V)) S)) W | _ => FnDB w (scK (relV (acqV V)) (flatF (laterS (relV (acqV V)) S)) 0) (laterS (relV (acqV V)) S) zero48 zero4 ga (flatF (laterS (relV (acqV V)) S)) W) (by kernel_rfl) (by kernel_rfl) (by kernel_rfl) (by rfl)
                    (by simp only [List.mem_cons, List.not_mem_nil, or_false, forall_eq_or_imp, forall_eq]; refine ⟨?_, ?_, ?_, ?_, ?_, ?_⟩ <;> (first | exact eqV_monoB _ _ | exact rowB_mono _ _ _ _ | exact true_monoB _))
                    (fun j W W' h hb => by rcases j with _ | j <;> first | exact (FnDB.grown h hb)) (HX21.out) ?_ ?_ ?_
                  · intro i o hi ho hc j A W hj hz hMj hk he
                    simp only [List.length_cons, List.length_nil, Nat.zero_add, Nat.reduceAdd] at hi
                    obtain rfl | rfl | rfl | rfl | rfl | rfl : i = 0 ∨ i = 1 ∨ i = 2 ∨ i = 3 ∨ i = 4 ∨ i = 5 := by omega
                    · injection ho with ho; subst ho
                      refine .inl ⟨wanted_free rfl, ?_⟩
                      have h3 : A.tmps[3]?.getD undef = .pointer (some ⟨w.heap.size, 0, none⟩) := hk 3 (by rfl)
                      go_simp
                      exact ⟨rfl, Below.refl _ _⟩
                    · obtain rfl : j = 0 := hj
                      have hMs : FnDB w (setV (relV (acqV V)) 0 (maxF ((relV (acqV V)) 0) (flatF (laterS (relV (acqV V)) S)))) (laterS (relV (acqV V)) S) zero48 zero4 ga (flatF (laterS (relV (acqV V)) S)) W := hMj
                      injection ho with ho; subst ho
                      refine .inl ⟨wanted_free rfl, ?_⟩
                      have h77 : A.tmps[77]?.getD undef = .pointer (some ⟨w.heap.size, 8, none⟩) := he 0 (by kernel_rfl) (by rfl)
                      exact y_load (cs := vwC ((relV (acqV V)) 1)) rfl h77 (vs_range (V := setV (relV (acqV V)) 0 (maxF ((relV (acqV V)) 0) (flatF (laterS (relV (acqV V)) S)))) (hMs.at'.at3) (1) _ (by omega) rfl) Try.underlying30 rfl rvSize
                    · obtain rfl : j = 0 := hj
                      have hMs : FnDB w (setV (relV (acqV V)) 0 (maxF ((relV (acqV V)) 0) (flatF (laterS (relV (acqV V)) S)))) (laterS (relV (acqV V)) S) zero48 zero4 ga (flatF (laterS (relV (acqV V)) S)) W := hMj
                      injection ho with ho; subst ho
                      refine .inl ⟨wanted_free rfl, ?_⟩
                      have h11 : A.tmps[11]?.getD undef = .pointer (some ⟨ga, 0, none⟩) := hk 11 (by rfl)
                      exact y_load (cs := vwC (flatF (laterS (relV (acqV V)) S))) rfl h11 (sits_range (hMs.ba)) Try.underlying30 rfl rvSize
                    · obtain rfl : j = 0 := hj
                      have hMs : FnDB w (setV (relV (acqV V)) 0 (maxF ((relV (acqV V)) 0) (flatF (laterS (relV (acqV V)) S)))) (laterS (relV (acqV V)) S) zero48 zero4 ga (flatF (laterS (relV (acqV V)) S)) W := hMj
                      injection ho with ho; subst ho
                      refine .inl ⟨wanted_free rfl, ?_⟩
                      have h78 : A.tmps[78]?.getD undef = .agg (vwC ((relV (acqV V)) 1)) := he 1 (by kernel_rfl) (by rfl)
                      have h79 : A.tmps[79]?.getD undef = .agg (vwC (flatF (laterS (relV (acqV V)) S))) := he 2 (by kernel_rfl) (by rfl)
                      go_simp
                      refine Calls.mono (djoin_any ((relV (acqV V)) 1) (flatF (laterS (relV (acqV V)) S)) W) ?_
                      rintro e' w' ⟨rfl, hb⟩
                      exact ⟨_, rfl, rfl, hb⟩
                    · injection ho with ho; subst ho
                      refine .inl ⟨wanted_free rfl, ?_⟩
                      have h3 : A.tmps[3]?.getD undef = .pointer (some ⟨w.heap.size, 0, none⟩) := hk 3 (by rfl)
                      go_simp
                      exact ⟨rfl, Below.refl _ _⟩
                    · exact absurd hc (by decide)
                  · intro j i o hji ho A W hz hMj hk he
                    rcases j with _ | j
                    · obtain rfl : 5 = i := Option.some.inj hji
                      injection ho with ho; subst ho
                      refine .inl ⟨wanted_free rfl, ?_⟩
                      have hMs : FnDB w (setV (relV (acqV V)) 0 (maxF ((relV (acqV V)) 0) (flatF (laterS (relV (acqV V)) S)))) (laterS (relV (acqV V)) S) zero48 zero4 ga (flatF (laterS (relV (acqV V)) S)) W := hMj
                      have h81 : A.tmps[81]?.getD undef = .pointer (some ⟨w.heap.size, 8, none⟩) := he 4 (by kernel_rfl) (by rfl)
                      have h80 : A.tmps[80]?.getD undef = .agg (vwC (maxF ((relV (acqV V)) 1) (flatF (laterS (relV (acqV V)) S)))) := he 3 (by kernel_rfl) (by rfl)
                      exact y_storeK rfl h81 h80 hMs.at'.at3 (k := 1) (by omega) rfl rvSize (by have := HX21.out.at'.grow; omega) (fun _ _ => trivial) (hMs.setK 1 _ _ rfl)
                    · simp at hji
                  · intro xs W hz hMe hV
                    have hMe : FnDB w (scK (relV (acqV V)) (flatF (laterS (relV (acqV V)) S)) 0) (laterS (relV (acqV V)) S) zero48 zero4 ga (flatF (laterS (relV (acqV V)) S)) W := hMe
                    simp only [putM, Act.put, List.setIfInBounds_toArray, List.set_cons_zero, List.set_cons_succ, Nat.zero_add, Nat.reduceAdd]
                    clear hV
                    generalize W = X22 at hMe ⊢
                    have HX22 := Lib.hid hMe
                    clear hMe hz HX21
                    go_wp2_with fail
                    refine wp_loop_rounds 5 ?_
                    simp only [Code.rounds]
                    go_upto_region 21 with (fail)
                    refine wp_flowM [some 86, some 87, some 88, some 89, some 90, some 91, some 92, some 93, some 94, none] [9] [0, 0, 0, 0, 0, 0, 0, 1, 0, 0] [eqV (.int .i64 (0)), eqV (.int .i64 (0)), eqV (.pointer (some ⟨w.heap.size, 16, none⟩)), eqV (.pointer (some ⟨w.heap.size, 16, none⟩)), eqV (.agg (vwC ((scK (relV (acqV V)) (flatF (laterS (relV (acqV V)) S)) 0) 2))), eqV (.agg (vwC (flatF (laterS (relV (acqV V)) S)))), eqV (.agg (vwC (maxF ((scK (relV (acqV V)) (flatF (laterS (relV (acqV V)) S)) 0) 2) (flatF (laterS (relV (acqV V)) S))))), eqV (.pointer (some ⟨w.heap.size, 16, none⟩)), eqV (.pointer (some ⟨w.heap.size, 16, none⟩)), fun _ _ => True] (fun j W => match j with | 0 => FnDB w (scK (relV (acqV V)) (flatF (laterS (relV (acqV V)) S)) 0) (laterS (relV (acqV V)) S) zero48 zero4 ga (flatF (laterS (relV (acqV V)) S)) W | _ => FnDB w (scK (relV (acqV V)) (flatF (laterS (relV (acqV V)) S)) 1) (laterS (relV (acqV V)) S) zero48 zero4 ga (flatF (laterS (relV (acqV V)) S)) W) (by kernel_rfl) (by kernel_rfl) (by kernel_rfl) (by rfl)
                      (by simp only [List.mem_cons, List.not_mem_nil, or_false, forall_eq_or_imp, forall_eq]; refine ⟨?_, ?_, ?_, ?_, ?_, ?_, ?_, ?_, ?_, ?_⟩ <;> (first | exact eqV_monoB _ _ | exact rowB_mono _ _ _ _ | exact true_monoB _))
                      (fun j W W' h hb => by rcases j with _ | j <;> first | exact (FnDB.grown h hb)) (HX22.out) ?_ ?_ ?_
                    · intro i o hi ho hc j A W hj hz hMj hk he
                      simp only [List.length_cons, List.length_nil, Nat.zero_add, Nat.reduceAdd] at hi
                      obtain rfl | rfl | rfl | rfl | rfl | rfl | rfl | rfl | rfl | rfl : i = 0 ∨ i = 1 ∨ i = 2 ∨ i = 3 ∨ i = 4 ∨ i = 5 ∨ i = 6 ∨ i = 7 ∨ i = 8 ∨ i = 9 := by omega
                      · injection ho with ho; subst ho
                        refine .inl ⟨wanted_free rfl, ?_⟩
                        have h12 : A.tmps[12]?.getD undef = .int .i64 (0) := hk 12 (by rfl)
                        go_simp
                        exact ⟨rfl, Below.refl _ _⟩
                      · injection ho with ho; subst ho
                        refine .inl ⟨wanted_free rfl, ?_⟩
                        have h12 : A.tmps[12]?.getD undef = .int .i64 (0) := hk 12 (by rfl)
                        go_simp
                        exact ⟨rfl, Below.refl _ _⟩
                      · injection ho with ho; subst ho
                        refine .inl ⟨wanted_free rfl, ?_⟩
                        have h3 : A.tmps[3]?.getD undef = .pointer (some ⟨w.heap.size, 0, none⟩) := hk 3 (by rfl)
                        go_simp
                        exact ⟨rfl, Below.refl _ _⟩
                      · injection ho with ho; subst ho
                        refine .inl ⟨wanted_free rfl, ?_⟩
                        have h88 : A.tmps[88]?.getD undef = .pointer (some ⟨w.heap.size, 16, none⟩) := he 2 (by kernel_rfl) (by rfl)
                        have h87 : A.tmps[87]?.getD undef = .int .i64 (0) := he 1 (by kernel_rfl) (by rfl)
                        go_simp
                        exact ⟨rfl, Below.refl _ _⟩
                      · obtain rfl : j = 0 := Nat.le_zero.1 hj
                        have hMs : FnDB w (scK (relV (acqV V)) (flatF (laterS (relV (acqV V)) S)) 0) (laterS (relV (acqV V)) S) zero48 zero4 ga (flatF (laterS (relV (acqV V)) S)) W := hMj
                        injection ho with ho; subst ho
                        refine .inl ⟨wanted_free rfl, ?_⟩
                        have h89 : A.tmps[89]?.getD undef = .pointer (some ⟨w.heap.size, 16, none⟩) := he 3 (by kernel_rfl) (by rfl)
                        exact y_load (cs := vwC ((scK (relV (acqV V)) (flatF (laterS (relV (acqV V)) S)) 0) 2)) rfl h89 (vs_range (V := scK (relV (acqV V)) (flatF (laterS (relV (acqV V)) S)) 0) (hMs.at'.at3) (2) _ (by omega) rfl) Try.underlying30 rfl rvSize
                      · obtain rfl : j = 0 := Nat.le_zero.1 hj
                        have hMs : FnDB w (scK (relV (acqV V)) (flatF (laterS (relV (acqV V)) S)) 0) (laterS (relV (acqV V)) S) zero48 zero4 ga (flatF (laterS (relV (acqV V)) S)) W := hMj
                        injection ho with ho; subst ho
                        refine .inl ⟨wanted_free rfl, ?_⟩
                        have h11 : A.tmps[11]?.getD undef = .pointer (some ⟨ga, 0, none⟩) := hk 11 (by rfl)
                        exact y_load (cs := vwC (flatF (laterS (relV (acqV V)) S))) rfl h11 (sits_range (hMs.ba)) Try.underlying30 rfl rvSize
                      · obtain rfl : j = 0 := Nat.le_zero.1 hj
                        have hMs : FnDB w (scK (relV (acqV V)) (flatF (laterS (relV (acqV V)) S)) 0) (laterS (relV (acqV V)) S) zero48 zero4 ga (flatF (laterS (relV (acqV V)) S)) W := hMj
                        injection ho with ho; subst ho
                        refine .inl ⟨wanted_free rfl, ?_⟩
                        have h90 : A.tmps[90]?.getD undef = .agg (vwC ((scK (relV (acqV V)) (flatF (laterS (relV (acqV V)) S)) 0) 2)) := he 4 (by kernel_rfl) (by rfl)
                        have h91 : A.tmps[91]?.getD undef = .agg (vwC (flatF (laterS (relV (acqV V)) S))) := he 5 (by kernel_rfl) (by rfl)
                        go_simp
                        refine Calls.mono (djoin_any ((scK (relV (acqV V)) (flatF (laterS (relV (acqV V)) S)) 0) 2) (flatF (laterS (relV (acqV V)) S)) W) ?_
                        rintro e' w' ⟨rfl, hb⟩
                        exact ⟨_, rfl, rfl, hb⟩
                      · injection ho with ho; subst ho
                        refine .inl ⟨wanted_free rfl, ?_⟩
                        have h3 : A.tmps[3]?.getD undef = .pointer (some ⟨w.heap.size, 0, none⟩) := hk 3 (by rfl)
                        go_simp
                        exact ⟨rfl, Below.refl _ _⟩
                      · injection ho with ho; subst ho
                        refine .inl ⟨wanted_free rfl, ?_⟩
                        have h93 : A.tmps[93]?.getD undef = .pointer (some ⟨w.heap.size, 16, none⟩) := he 7 (by kernel_rfl) (by rfl)
                        have h86 : A.tmps[86]?.getD undef = .int .i64 (0) := he 0 (by kernel_rfl) (by rfl)
                        go_simp
                        exact ⟨rfl, Below.refl _ _⟩
                      · exact absurd hc (by decide)
                    · intro j i o hji ho A W hz hMj hk he
                      rcases j with _ | j
                      · obtain rfl : 9 = i := Option.some.inj hji
                        injection ho with ho; subst ho
                        refine .inl ⟨wanted_free rfl, ?_⟩
                        have hMs : FnDB w (scK (relV (acqV V)) (flatF (laterS (relV (acqV V)) S)) 0) (laterS (relV (acqV V)) S) zero48 zero4 ga (flatF (laterS (relV (acqV V)) S)) W := hMj
                        have h94 : A.tmps[94]?.getD undef = .pointer (some ⟨w.heap.size, 16, none⟩) := he 8 (by kernel_rfl) (by rfl)
                        have h92 : A.tmps[92]?.getD undef = .agg (vwC (maxF ((scK (relV (acqV V)) (flatF (laterS (relV (acqV V)) S)) 0) 2) (flatF (laterS (relV (acqV V)) S)))) := he 6 (by kernel_rfl) (by rfl)
                        exact y_storeK rfl h94 h92 hMs.at'.at3 (k := 2) (by omega) rfl rvSize (by have := HX22.out.at'.grow; omega) (fun _ _ => trivial) (hMs.setK 2 _ _ rfl)
                      · simp at hji
                    · intro xs W hz hMe hV
                      have hMe : FnDB w (scK (relV (acqV V)) (flatF (laterS (relV (acqV V)) S)) 1) (laterS (relV (acqV V)) S) zero48 zero4 ga (flatF (laterS (relV (acqV V)) S)) W := hMe
                      simp only [putM, Act.put, List.setIfInBounds_toArray, List.set_cons_zero, List.set_cons_succ, Nat.zero_add, Nat.reduceAdd]
                      clear hV
                      generalize W = X23 at hMe ⊢
                      have HX23 := Lib.hid hMe
                      clear hMe hz HX22
                      go_upto_region 21 with (fail)
                      refine wp_flowM [some 86, some 87, some 88, some 89, some 90, some 91, some 92, some 93, some 94, none] [9] [0, 0, 0, 0, 0, 0, 0, 1, 0, 0] [eqV (.int .i64 (1)), eqV (.int .i64 (1)), eqV (.pointer (some ⟨w.heap.size, 16, none⟩)), eqV (.pointer (some ⟨w.heap.size, 24, none⟩)), eqV (.agg (vwC ((scK (relV (acqV V)) (flatF (laterS (relV (acqV V)) S)) 1) 3))), eqV (.agg (vwC (flatF (laterS (relV (acqV V)) S)))), eqV (.agg (vwC (maxF ((scK (relV (acqV V)) (flatF (laterS (relV (acqV V)) S)) 1) 3) (flatF (laterS (relV (acqV V)) S))))), eqV (.pointer (some ⟨w.heap.size, 16, none⟩)), eqV (.pointer (some ⟨w.heap.size, 24, none⟩)), fun _ _ => True] (fun j W => match j with | 0 => FnDB w (scK (relV (acqV V)) (flatF (laterS (relV (acqV V)) S)) 1) (laterS (relV (acqV V)) S) zero48 zero4 ga (flatF (laterS (relV (acqV V)) S)) W | _ => FnDB w (scK (relV (acqV V)) (flatF (laterS (relV (acqV V)) S)) 2) (laterS (relV (acqV V)) S) zero48 zero4 ga (flatF (laterS (relV (acqV V)) S)) W) (by kernel_rfl) (by kernel_rfl) (by kernel_rfl) (by rfl)
                        (by simp only [List.mem_cons, List.not_mem_nil, or_false, forall_eq_or_imp, forall_eq]; refine ⟨?_, ?_, ?_, ?_, ?_, ?_, ?_, ?_, ?_, ?_⟩ <;> (first | exact eqV_monoB _ _ | exact rowB_mono _ _ _ _ | exact true_monoB _))
                        (fun j W W' h hb => by rcases j with _ | j <;> first | exact (FnDB.grown h hb)) (HX23.out) ?_ ?_ ?_
                      · intro i o hi ho hc j A W hj hz hMj hk he
                        simp only [List.length_cons, List.length_nil, Nat.zero_add, Nat.reduceAdd] at hi
                        obtain rfl | rfl | rfl | rfl | rfl | rfl | rfl | rfl | rfl | rfl : i = 0 ∨ i = 1 ∨ i = 2 ∨ i = 3 ∨ i = 4 ∨ i = 5 ∨ i = 6 ∨ i = 7 ∨ i = 8 ∨ i = 9 := by omega
                        · injection ho with ho; subst ho
                          refine .inl ⟨wanted_free rfl, ?_⟩
                          have h12 : A.tmps[12]?.getD undef = .int .i64 (1) := hk 12 (by rfl)
                          go_simp
                          exact ⟨rfl, Below.refl _ _⟩
                        · injection ho with ho; subst ho
                          refine .inl ⟨wanted_free rfl, ?_⟩
                          have h12 : A.tmps[12]?.getD undef = .int .i64 (1) := hk 12 (by rfl)
                          go_simp
                          exact ⟨rfl, Below.refl _ _⟩
                        · injection ho with ho; subst ho
                          refine .inl ⟨wanted_free rfl, ?_⟩
                          have h3 : A.tmps[3]?.getD undef = .pointer (some ⟨w.heap.size, 0, none⟩) := hk 3 (by rfl)
                          go_simp
                          exact ⟨rfl, Below.refl _ _⟩
                        · injection ho with ho; subst ho
                          refine .inl ⟨wanted_free rfl, ?_⟩
                          have h88 : A.tmps[88]?.getD undef = .pointer (some ⟨w.heap.size, 16, none⟩) := he 2 (by kernel_rfl) (by rfl)
                          have h87 : A.tmps[87]?.getD undef = .int .i64 (1) := he 1 (by kernel_rfl) (by rfl)
                          go_simp
                          exact ⟨rfl, Below.refl _ _⟩
                        · obtain rfl : j = 0 := Nat.le_zero.1 hj
                          have hMs : FnDB w (scK (relV (acqV V)) (flatF (laterS (relV (acqV V)) S)) 1) (laterS (relV (acqV V)) S) zero48 zero4 ga (flatF (laterS (relV (acqV V)) S)) W := hMj
                          injection ho with ho; subst ho
                          refine .inl ⟨wanted_free rfl, ?_⟩
                          have h89 : A.tmps[89]?.getD undef = .pointer (some ⟨w.heap.size, 24, none⟩) := he 3 (by kernel_rfl) (by rfl)
                          exact y_load (cs := vwC ((scK (relV (acqV V)) (flatF (laterS (relV (acqV V)) S)) 1) 3)) rfl h89 (vs_range (V := scK (relV (acqV V)) (flatF (laterS (relV (acqV V)) S)) 1) (hMs.at'.at3) (3) _ (by omega) rfl) Try.underlying30 rfl rvSize
                        · obtain rfl : j = 0 := Nat.le_zero.1 hj
                          have hMs : FnDB w (scK (relV (acqV V)) (flatF (laterS (relV (acqV V)) S)) 1) (laterS (relV (acqV V)) S) zero48 zero4 ga (flatF (laterS (relV (acqV V)) S)) W := hMj
                          injection ho with ho; subst ho
                          refine .inl ⟨wanted_free rfl, ?_⟩
                          have h11 : A.tmps[11]?.getD undef = .pointer (some ⟨ga, 0, none⟩) := hk 11 (by rfl)
                          exact y_load (cs := vwC (flatF (laterS (relV (acqV V)) S))) rfl h11 (sits_range (hMs.ba)) Try.underlying30 rfl rvSize
                        · obtain rfl : j = 0 := Nat.le_zero.1 hj
                          have hMs : FnDB w (scK (relV (acqV V)) (flatF (laterS (relV (acqV V)) S)) 1) (laterS (relV (acqV V)) S) zero48 zero4 ga (flatF (laterS (relV (acqV V)) S)) W := hMj
                          injection ho with ho; subst ho
                          refine .inl ⟨wanted_free rfl, ?_⟩
                          have h90 : A.tmps[90]?.getD undef = .agg (vwC ((scK (relV (acqV V)) (flatF (laterS (relV (acqV V)) S)) 1) 3)) := he 4 (by kernel_rfl) (by rfl)
                          have h91 : A.tmps[91]?.getD undef = .agg (vwC (flatF (laterS (relV (acqV V)) S))) := he 5 (by kernel_rfl) (by rfl)
                          go_simp
                          refine Calls.mono (djoin_any ((scK (relV (acqV V)) (flatF (laterS (relV (acqV V)) S)) 1) 3) (flatF (laterS (relV (acqV V)) S)) W) ?_
                          rintro e' w' ⟨rfl, hb⟩
                          exact ⟨_, rfl, rfl, hb⟩
                        · injection ho with ho; subst ho
                          refine .inl ⟨wanted_free rfl, ?_⟩
                          have h3 : A.tmps[3]?.getD undef = .pointer (some ⟨w.heap.size, 0, none⟩) := hk 3 (by rfl)
                          go_simp
                          exact ⟨rfl, Below.refl _ _⟩
                        · injection ho with ho; subst ho
                          refine .inl ⟨wanted_free rfl, ?_⟩
                          have h93 : A.tmps[93]?.getD undef = .pointer (some ⟨w.heap.size, 16, none⟩) := he 7 (by kernel_rfl) (by rfl)
                          have h86 : A.tmps[86]?.getD undef = .int .i64 (1) := he 0 (by kernel_rfl) (by rfl)
                          go_simp
                          exact ⟨rfl, Below.refl _ _⟩
                        · exact absurd hc (by decide)
                      · intro j i o hji ho A W hz hMj hk he
                        rcases j with _ | j
                        · obtain rfl : 9 = i := Option.some.inj hji
                          injection ho with ho; subst ho
                          refine .inl ⟨wanted_free rfl, ?_⟩
                          have hMs : FnDB w (scK (relV (acqV V)) (flatF (laterS (relV (acqV V)) S)) 1) (laterS (relV (acqV V)) S) zero48 zero4 ga (flatF (laterS (relV (acqV V)) S)) W := hMj
                          have h94 : A.tmps[94]?.getD undef = .pointer (some ⟨w.heap.size, 24, none⟩) := he 8 (by kernel_rfl) (by rfl)
                          have h92 : A.tmps[92]?.getD undef = .agg (vwC (maxF ((scK (relV (acqV V)) (flatF (laterS (relV (acqV V)) S)) 1) 3) (flatF (laterS (relV (acqV V)) S)))) := he 6 (by kernel_rfl) (by rfl)
                          exact y_storeK rfl h94 h92 hMs.at'.at3 (k := 3) (by omega) rfl rvSize (by have := HX23.out.at'.grow; omega) (fun _ _ => trivial) (hMs.setK 3 _ _ rfl)
                        · simp at hji
                      · intro xs W hz hMe hV
                        have hMe : FnDB w (scK (relV (acqV V)) (flatF (laterS (relV (acqV V)) S)) 2) (laterS (relV (acqV V)) S) zero48 zero4 ga (flatF (laterS (relV (acqV V)) S)) W := hMe
                        simp only [putM, Act.put, List.setIfInBounds_toArray, List.set_cons_zero, List.set_cons_succ, Nat.zero_add, Nat.reduceAdd]
                        clear hV
                        generalize W = X24 at hMe ⊢
                        have HX24 := Lib.hid hMe
                        clear hMe hz HX23
                        go_upto_region 21 with (fail)
                        refine wp_flowM [some 86, some 87, some 88, some 89, some 90, some 91, some 92, some 93, some 94, none] [9] [0, 0, 0, 0, 0, 0, 0, 1, 0, 0] [eqV (.int .i64 (2)), eqV (.int .i64 (2)), eqV (.pointer (some ⟨w.heap.size, 16, none⟩)), eqV (.pointer (some ⟨w.heap.size, 32, none⟩)), eqV (.agg (vwC ((scK (relV (acqV V)) (flatF (laterS (relV (acqV V)) S)) 2) 4))), eqV (.agg (vwC (flatF (laterS (relV (acqV V)) S)))), eqV (.agg (vwC (maxF ((scK (relV (acqV V)) (flatF (laterS (relV (acqV V)) S)) 2) 4) (flatF (laterS (relV (acqV V)) S))))), eqV (.pointer (some ⟨w.heap.size, 16, none⟩)), eqV (.pointer (some ⟨w.heap.size, 32, none⟩)), fun _ _ => True] (fun j W => match j with | 0 => FnDB w (scK (relV (acqV V)) (flatF (laterS (relV (acqV V)) S)) 2) (laterS (relV (acqV V)) S) zero48 zero4 ga (flatF (laterS (relV (acqV V)) S)) W | _ => FnDB w (scK (relV (acqV V)) (flatF (laterS (relV (acqV V)) S)) 3) (laterS (relV (acqV V)) S) zero48 zero4 ga (flatF (laterS (relV (acqV V)) S)) W) (by kernel_rfl) (by kernel_rfl) (by kernel_rfl) (by rfl)
                          (by simp only [List.mem_cons, List.not_mem_nil, or_false, forall_eq_or_imp, forall_eq]; refine ⟨?_, ?_, ?_, ?_, ?_, ?_, ?_, ?_, ?_, ?_⟩ <;> (first | exact eqV_monoB _ _ | exact rowB_mono _ _ _ _ | exact true_monoB _))
                          (fun j W W' h hb => by rcases j with _ | j <;> first | exact (FnDB.grown h hb)) (HX24.out) ?_ ?_ ?_
                        · intro i o hi ho hc j A W hj hz hMj hk he
                          simp only [List.length_cons, List.length_nil, Nat.zero_add, Nat.reduceAdd] at hi
                          obtain rfl | rfl | rfl | rfl | rfl | rfl | rfl | rfl | rfl | rfl : i = 0 ∨ i = 1 ∨ i = 2 ∨ i = 3 ∨ i = 4 ∨ i = 5 ∨ i = 6 ∨ i = 7 ∨ i = 8 ∨ i = 9 := by omega
                          · injection ho with ho; subst ho
                            refine .inl ⟨wanted_free rfl, ?_⟩
                            have h12 : A.tmps[12]?.getD undef = .int .i64 (2) := hk 12 (by rfl)
                            go_simp
                            exact ⟨rfl, Below.refl _ _⟩
                          · injection ho with ho; subst ho
                            refine .inl ⟨wanted_free rfl, ?_⟩
                            have h12 : A.tmps[12]?.getD undef = .int .i64 (2) := hk 12 (by rfl)
                            go_simp
                            exact ⟨rfl, Below.refl _ _⟩
                          · injection ho with ho; subst ho
                            refine .inl ⟨wanted_free rfl, ?_⟩
                            have h3 : A.tmps[3]?.getD undef = .pointer (some ⟨w.heap.size, 0, none⟩) := hk 3 (by rfl)
                            go_simp
                            exact ⟨rfl, Below.refl _ _⟩
                          · injection ho with ho; subst ho
                            refine .inl ⟨wanted_free rfl, ?_⟩
                            have h88 : A.tmps[88]?.getD undef = .pointer (some ⟨w.heap.size, 16, none⟩) := he 2 (by kernel_rfl) (by rfl)
                            have h87 : A.tmps[87]?.getD undef = .int .i64 (2) := he 1 (by kernel_rfl) (by rfl)
                            go_simp
                            exact ⟨rfl, Below.refl _ _⟩
                          · obtain rfl : j = 0 := Nat.le_zero.1 hj
                            have hMs : FnDB w (scK (relV (acqV V)) (flatF (laterS (relV (acqV V)) S)) 2) (laterS (relV (acqV V)) S) zero48 zero4 ga (flatF (laterS (relV (acqV V)) S)) W := hMj
                            injection ho with ho; subst ho
                            refine .inl ⟨wanted_free rfl, ?_⟩
                            have h89 : A.tmps[89]?.getD undef = .pointer (some ⟨w.heap.size, 32, none⟩) := he 3 (by kernel_rfl) (by rfl)
                            exact y_load (cs := vwC ((scK (relV (acqV V)) (flatF (laterS (relV (acqV V)) S)) 2) 4)) rfl h89 (vs_range (V := scK (relV (acqV V)) (flatF (laterS (relV (acqV V)) S)) 2) (hMs.at'.at3) (4) _ (by omega) rfl) Try.underlying30 rfl rvSize
                          · obtain rfl : j = 0 := Nat.le_zero.1 hj
                            have hMs : FnDB w (scK (relV (acqV V)) (flatF (laterS (relV (acqV V)) S)) 2) (laterS (relV (acqV V)) S) zero48 zero4 ga (flatF (laterS (relV (acqV V)) S)) W := hMj
                            injection ho with ho; subst ho
                            refine .inl ⟨wanted_free rfl, ?_⟩
                            have h11 : A.tmps[11]?.getD undef = .pointer (some ⟨ga, 0, none⟩) := hk 11 (by rfl)
                            exact y_load (cs := vwC (flatF (laterS (relV (acqV V)) S))) rfl h11 (sits_range (hMs.ba)) Try.underlying30 rfl rvSize
                          · obtain rfl : j = 0 := Nat.le_zero.1 hj
                            have hMs : FnDB w (scK (relV (acqV V)) (flatF (laterS (relV (acqV V)) S)) 2) (laterS (relV (acqV V)) S) zero48 zero4 ga (flatF (laterS (relV (acqV V)) S)) W := hMj
                            injection ho with ho; subst ho
                            refine .inl ⟨wanted_free rfl, ?_⟩
                            have h90 : A.tmps[90]?.getD undef = .agg (vwC ((scK (relV (acqV V)) (flatF (laterS (relV (acqV V)) S)) 2) 4)) := he 4 (by kernel_rfl) (by rfl)
                            have h91 : A.tmps[91]?.getD undef = .agg (vwC (flatF (laterS (relV (acqV V)) S))) := he 5 (by kernel_rfl) (by rfl)
                            go_simp
                            refine Calls.mono (djoin_any ((scK (relV (acqV V)) (flatF (laterS (relV (acqV V)) S)) 2) 4) (flatF (laterS (relV (acqV V)) S)) W) ?_
                            rintro e' w' ⟨rfl, hb⟩
                            exact ⟨_, rfl, rfl, hb⟩
                          · injection ho with ho; subst ho
                            refine .inl ⟨wanted_free rfl, ?_⟩
                            have h3 : A.tmps[3]?.getD undef = .pointer (some ⟨w.heap.size, 0, none⟩) := hk 3 (by rfl)
                            go_simp
                            exact ⟨rfl, Below.refl _ _⟩
                          · injection ho with ho; subst ho
                            refine .inl ⟨wanted_free rfl, ?_⟩
                            have h93 : A.tmps[93]?.getD undef = .pointer (some ⟨w.heap.size, 16, none⟩) := he 7 (by kernel_rfl) (by rfl)
                            have h86 : A.tmps[86]?.getD undef = .int .i64 (2) := he 0 (by kernel_rfl) (by rfl)
                            go_simp
                            exact ⟨rfl, Below.refl _ _⟩
                          · exact absurd hc (by decide)
                        · intro j i o hji ho A W hz hMj hk he
                          rcases j with _ | j
                          · obtain rfl : 9 = i := Option.some.inj hji
                            injection ho with ho; subst ho
                            refine .inl ⟨wanted_free rfl, ?_⟩
                            have hMs : FnDB w (scK (relV (acqV V)) (flatF (laterS (relV (acqV V)) S)) 2) (laterS (relV (acqV V)) S) zero48 zero4 ga (flatF (laterS (relV (acqV V)) S)) W := hMj
                            have h94 : A.tmps[94]?.getD undef = .pointer (some ⟨w.heap.size, 32, none⟩) := he 8 (by kernel_rfl) (by rfl)
                            have h92 : A.tmps[92]?.getD undef = .agg (vwC (maxF ((scK (relV (acqV V)) (flatF (laterS (relV (acqV V)) S)) 2) 4) (flatF (laterS (relV (acqV V)) S)))) := he 6 (by kernel_rfl) (by rfl)
                            exact y_storeK rfl h94 h92 hMs.at'.at3 (k := 4) (by omega) rfl rvSize (by have := HX24.out.at'.grow; omega) (fun _ _ => trivial) (hMs.setK 4 _ _ rfl)
                          · simp at hji
                        · intro xs W hz hMe hV
                          have hMe : FnDB w (scK (relV (acqV V)) (flatF (laterS (relV (acqV V)) S)) 3) (laterS (relV (acqV V)) S) zero48 zero4 ga (flatF (laterS (relV (acqV V)) S)) W := hMe
                          simp only [putM, Act.put, List.setIfInBounds_toArray, List.set_cons_zero, List.set_cons_succ, Nat.zero_add, Nat.reduceAdd]
                          clear hV
                          generalize W = X25 at hMe ⊢
                          have HX25 := Lib.hid hMe
                          clear hMe hz HX24
                          go_upto_region 21 with (fail)
                          refine wp_flowM [some 86, some 87, some 88, some 89, some 90, some 91, some 92, some 93, some 94, none] [9] [0, 0, 0, 0, 0, 0, 0, 1, 0, 0] [eqV (.int .i64 (3)), eqV (.int .i64 (3)), eqV (.pointer (some ⟨w.heap.size, 16, none⟩)), eqV (.pointer (some ⟨w.heap.size, 40, none⟩)), eqV (.agg (vwC ((scK (relV (acqV V)) (flatF (laterS (relV (acqV V)) S)) 3) 5))), eqV (.agg (vwC (flatF (laterS (relV (acqV V)) S)))), eqV (.agg (vwC (maxF ((scK (relV (acqV V)) (flatF (laterS (relV (acqV V)) S)) 3) 5) (flatF (laterS (relV (acqV V)) S))))), eqV (.pointer (some ⟨w.heap.size, 16, none⟩)), eqV (.pointer (some ⟨w.heap.size, 40, none⟩)), fun _ _ => True] (fun j W => match j with | 0 => FnDB w (scK (relV (acqV V)) (flatF (laterS (relV (acqV V)) S)) 3) (laterS (relV (acqV V)) S) zero48 zero4 ga (flatF (laterS (relV (acqV V)) S)) W | _ => FnDB w (scK (relV (acqV V)) (flatF (laterS (relV (acqV V)) S)) 4) (laterS (relV (acqV V)) S) zero48 zero4 ga (flatF (laterS (relV (acqV V)) S)) W) (by kernel_rfl) (by kernel_rfl) (by kernel_rfl) (by rfl)
                            (by simp only [List.mem_cons, List.not_mem_nil, or_false, forall_eq_or_imp, forall_eq]; refine ⟨?_, ?_, ?_, ?_, ?_, ?_, ?_, ?_, ?_, ?_⟩ <;> (first | exact eqV_monoB _ _ | exact rowB_mono _ _ _ _ | exact true_monoB _))
                            (fun j W W' h hb => by rcases j with _ | j <;> first | exact (FnDB.grown h hb)) (HX25.out) ?_ ?_ ?_
                          · intro i o hi ho hc j A W hj hz hMj hk he
                            simp only [List.length_cons, List.length_nil, Nat.zero_add, Nat.reduceAdd] at hi
                            obtain rfl | rfl | rfl | rfl | rfl | rfl | rfl | rfl | rfl | rfl : i = 0 ∨ i = 1 ∨ i = 2 ∨ i = 3 ∨ i = 4 ∨ i = 5 ∨ i = 6 ∨ i = 7 ∨ i = 8 ∨ i = 9 := by omega
                            · injection ho with ho; subst ho
                              refine .inl ⟨wanted_free rfl, ?_⟩
                              have h12 : A.tmps[12]?.getD undef = .int .i64 (3) := hk 12 (by rfl)
                              go_simp
                              exact ⟨rfl, Below.refl _ _⟩
                            · injection ho with ho; subst ho
                              refine .inl ⟨wanted_free rfl, ?_⟩
                              have h12 : A.tmps[12]?.getD undef = .int .i64 (3) := hk 12 (by rfl)
                              go_simp
                              exact ⟨rfl, Below.refl _ _⟩
                            · injection ho with ho; subst ho
                              refine .inl ⟨wanted_free rfl, ?_⟩
                              have h3 : A.tmps[3]?.getD undef = .pointer (some ⟨w.heap.size, 0, none⟩) := hk 3 (by rfl)
                              go_simp
                              exact ⟨rfl, Below.refl _ _⟩
                            · injection ho with ho; subst ho
                              refine .inl ⟨wanted_free rfl, ?_⟩
                              have h88 : A.tmps[88]?.getD undef = .pointer (some ⟨w.heap.size, 16, none⟩) := he 2 (by kernel_rfl) (by rfl)
                              have h87 : A.tmps[87]?.getD undef = .int .i64 (3) := he 1 (by kernel_rfl) (by rfl)
                              go_simp
                              exact ⟨rfl, Below.refl _ _⟩
                            · obtain rfl : j = 0 := Nat.le_zero.1 hj
                              have hMs : FnDB w (scK (relV (acqV V)) (flatF (laterS (relV (acqV V)) S)) 3) (laterS (relV (acqV V)) S) zero48 zero4 ga (flatF (laterS (relV (acqV V)) S)) W := hMj
                              injection ho with ho; subst ho
                              refine .inl ⟨wanted_free rfl, ?_⟩
                              have h89 : A.tmps[89]?.getD undef = .pointer (some ⟨w.heap.size, 40, none⟩) := he 3 (by kernel_rfl) (by rfl)
                              exact y_load (cs := vwC ((scK (relV (acqV V)) (flatF (laterS (relV (acqV V)) S)) 3) 5)) rfl h89 (vs_range (V := scK (relV (acqV V)) (flatF (laterS (relV (acqV V)) S)) 3) (hMs.at'.at3) (5) _ (by omega) rfl) Try.underlying30 rfl rvSize
                            · obtain rfl : j = 0 := Nat.le_zero.1 hj
                              have hMs : FnDB w (scK (relV (acqV V)) (flatF (laterS (relV (acqV V)) S)) 3) (laterS (relV (acqV V)) S) zero48 zero4 ga (flatF (laterS (relV (acqV V)) S)) W := hMj
                              injection ho with ho; subst ho
                              refine .inl ⟨wanted_free rfl, ?_⟩
                              have h11 : A.tmps[11]?.getD undef = .pointer (some ⟨ga, 0, none⟩) := hk 11 (by rfl)
                              exact y_load (cs := vwC (flatF (laterS (relV (acqV V)) S))) rfl h11 (sits_range (hMs.ba)) Try.underlying30 rfl rvSize
                            · obtain rfl : j = 0 := Nat.le_zero.1 hj
                              have hMs : FnDB w (scK (relV (acqV V)) (flatF (laterS (relV (acqV V)) S)) 3) (laterS (relV (acqV V)) S) zero48 zero4 ga (flatF (laterS (relV (acqV V)) S)) W := hMj
                              injection ho with ho; subst ho
                              refine .inl ⟨wanted_free rfl, ?_⟩
                              have h90 : A.tmps[90]?.getD undef = .agg (vwC ((scK (relV (acqV V)) (flatF (laterS (relV (acqV V)) S)) 3) 5)) := he 4 (by kernel_rfl) (by rfl)
                              have h91 : A.tmps[91]?.getD undef = .agg (vwC (flatF (laterS (relV (acqV V)) S))) := he 5 (by kernel_rfl) (by rfl)
                              go_simp
                              refine Calls.mono (djoin_any ((scK (relV (acqV V)) (flatF (laterS (relV (acqV V)) S)) 3) 5) (flatF (laterS (relV (acqV V)) S)) W) ?_
                              rintro e' w' ⟨rfl, hb⟩
                              exact ⟨_, rfl, rfl, hb⟩
                            · injection ho with ho; subst ho
                              refine .inl ⟨wanted_free rfl, ?_⟩
                              have h3 : A.tmps[3]?.getD undef = .pointer (some ⟨w.heap.size, 0, none⟩) := hk 3 (by rfl)
                              go_simp
                              exact ⟨rfl, Below.refl _ _⟩
                            · injection ho with ho; subst ho
                              refine .inl ⟨wanted_free rfl, ?_⟩
                              have h93 : A.tmps[93]?.getD undef = .pointer (some ⟨w.heap.size, 16, none⟩) := he 7 (by kernel_rfl) (by rfl)
                              have h86 : A.tmps[86]?.getD undef = .int .i64 (3) := he 0 (by kernel_rfl) (by rfl)
                              go_simp
                              exact ⟨rfl, Below.refl _ _⟩
                            · exact absurd hc (by decide)
                          · intro j i o hji ho A W hz hMj hk he
                            rcases j with _ | j
                            · obtain rfl : 9 = i := Option.some.inj hji
                              injection ho with ho; subst ho
                              refine .inl ⟨wanted_free rfl, ?_⟩
                              have hMs : FnDB w (scK (relV (acqV V)) (flatF (laterS (relV (acqV V)) S)) 3) (laterS (relV (acqV V)) S) zero48 zero4 ga (flatF (laterS (relV (acqV V)) S)) W := hMj
                              have h94 : A.tmps[94]?.getD undef = .pointer (some ⟨w.heap.size, 40, none⟩) := he 8 (by kernel_rfl) (by rfl)
                              have h92 : A.tmps[92]?.getD undef = .agg (vwC (maxF ((scK (relV (acqV V)) (flatF (laterS (relV (acqV V)) S)) 3) 5) (flatF (laterS (relV (acqV V)) S)))) := he 6 (by kernel_rfl) (by rfl)
                              exact y_storeK rfl h94 h92 hMs.at'.at3 (k := 5) (by omega) rfl rvSize (by have := HX25.out.at'.grow; omega) (fun _ _ => trivial) (hMs.setK 5 _ _ rfl)
                            · simp at hji
                          · intro xs W hz hMe hV
                            have hMe : FnDB w (scK (relV (acqV V)) (flatF (laterS (relV (acqV V)) S)) 4) (laterS (relV (acqV V)) S) zero48 zero4 ga (flatF (laterS (relV (acqV V)) S)) W := hMe
                            simp only [putM, Act.put, List.setIfInBounds_toArray, List.set_cons_zero, List.set_cons_succ, Nat.zero_add, Nat.reduceAdd]
                            clear hV
                            generalize W = X26 at hMe ⊢
                            have HX26 := Lib.hid hMe
                            clear hMe hz HX25
                            have HR2 : Hid (FnD w (scV (relV (acqV V)) S) (laterS (relV (acqV V)) S) zero48 zero4 X26) := Lib.hid (HX26.out.at'.views (scK_4 (relV (acqV V)) (flatF (laterS (relV (acqV V)) S))))
                            clear HX26
                            go_upto_region 22 with (fail)
                            refine wp_flowM [some 95, some 96, none, none, some 8] [2, 3] [0, 1, 0, 0, 2] [eqV (.agg (vsC (scV (relV (acqV V)) S))), eqV (arr (laterS (relV (acqV V)) S)), fun _ _ => True, fun _ _ => True, eqV (.bool true)] (fun j W => match j with | 0 => FnD w (scV (relV (acqV V)) S) (laterS (relV (acqV V)) S) (zero48) (zero4) W | 1 => FnD w (scV (relV (acqV V)) S) (laterS (relV (acqV V)) S) (vsC (scV (relV (acqV V)) S)) (zero4) W | _ => FnD w (scV (relV (acqV V)) S) (laterS (relV (acqV V)) S) (vsC (scV (relV (acqV V)) S)) (arrC (laterS (relV (acqV V)) S)) W) (by kernel_rfl) (by kernel_rfl) (by kernel_rfl) (by rfl)
                              (by simp only [List.mem_cons, List.not_mem_nil, or_false, forall_eq_or_imp, forall_eq]; refine ⟨?_, ?_, ?_, ?_, ?_⟩ <;> (first | exact eqV_monoB _ _ | exact rowB_mono _ _ _ _ | exact true_monoB _))
                              (fun j W W' h hb => by rcases j with _ | _ | j <;> first | exact (FnD.grown h hb)) (HR2.out) ?_ ?_ ?_
                            · intro i o hi ho hc j A W hj hz hMj hk he
                              simp only [List.length_cons, List.length_nil, Nat.zero_add, Nat.reduceAdd] at hi
                              obtain rfl | rfl | rfl | rfl | rfl : i = 0 ∨ i = 1 ∨ i = 2 ∨ i = 3 ∨ i = 4 := by omega
                              · obtain rfl : j = 0 := Nat.le_zero.1 hj
                                have hMs : FnD w (scV (relV (acqV V)) S) (laterS (relV (acqV V)) S) (zero48) (zero4) W := hMj
                                injection ho with ho; subst ho
                                refine .inl ⟨wanted_free rfl, ?_⟩
                                have h3 : A.tmps[3]?.getD undef = .pointer (some ⟨w.heap.size, 0, none⟩) := hk 3 (by rfl)
                                exact y_load (cs := vsC (scV (relV (acqV V)) S)) rfl h3 (sits_range (hMs.at3)) Try.underlying33 rfl rsSize
                              · have hj2 : j ≤ 1 := hj
                                rcases j with _ | _ | j
                                · have hMs : FnD w (scV (relV (acqV V)) S) (laterS (relV (acqV V)) S) (zero48) (zero4) W := hMj
                                  injection ho with ho; subst ho
                                  refine .inl ⟨wanted_free rfl, ?_⟩
                                  have h5 : A.tmps[5]?.getD undef = .pointer (some ⟨w.heap.size + 1, 0, none⟩) := hk 5 (by rfl)
                                  have c0 := (hMs.at5).cell 0
                                  have c1 := (hMs.at5).cell 1
                                  have c2 := (hMs.at5).cell 2
                                  have c3 := (hMs.at5).cell 3
                                  go_simp
                                  exact ⟨rfl, Below.refl _ _⟩
                                · have hMs : FnD w (scV (relV (acqV V)) S) (laterS (relV (acqV V)) S) (vsC (scV (relV (acqV V)) S)) (zero4) W := hMj
                                  injection ho with ho; subst ho
                                  refine .inl ⟨wanted_free rfl, ?_⟩
                                  have h5 : A.tmps[5]?.getD undef = .pointer (some ⟨w.heap.size + 1, 0, none⟩) := hk 5 (by rfl)
                                  have c0 := (hMs.at5).cell 0
                                  have c1 := (hMs.at5).cell 1
                                  have c2 := (hMs.at5).cell 2
                                  have c3 := (hMs.at5).cell 3
                                  go_simp
                                  exact ⟨rfl, Below.refl _ _⟩
                                · omega
                              · exact absurd hc (by decide)
                              · exact absurd hc (by decide)
                              · injection ho with ho; subst ho
                                refine .inl ⟨wanted_free rfl, ?_⟩
                                go_simp
                                exact ⟨rfl, Below.refl _ _⟩
                            · intro j i o hji ho A W hz hMj hk he
                              rcases j with _ | _ | j
                              · obtain rfl : 2 = i := Option.some.inj hji
                                injection ho with ho; subst ho
                                refine .inl ⟨wanted_free rfl, ?_⟩
                                have hMs : FnD w (scV (relV (acqV V)) S) (laterS (relV (acqV V)) S) (zero48) (zero4) W := hMj
                                have h6 : A.tmps[6]?.getD undef = .pointer (some ⟨w.heap.size + 1 + 1, 0, none⟩) := hk 6 (by rfl)
                                have h95 : A.tmps[95]?.getD undef = .agg (vsC (scV (relV (acqV V)) S)) := he 0 (by kernel_rfl) (by rfl)
                                exact y_store rfl h6 h95 hMs.at6 (by rw [vsC_size]; exact rsSize) (zero48_size.trans (vsC_size _).symm) (vsC_one _) (by have := HR2.out.grow; omega) (fun _ _ => trivial) (hMs.out _)
                              · obtain rfl : 3 = i := Option.some.inj hji
                                injection ho with ho; subst ho
                                refine .inl ⟨wanted_free rfl, ?_⟩
                                have hMs : FnD w (scV (relV (acqV V)) S) (laterS (relV (acqV V)) S) (vsC (scV (relV (acqV V)) S)) (zero4) W := hMj
                                have h7 : A.tmps[7]?.getD undef = .pointer (some ⟨w.heap.size + 1 + 1 + 1, 0, none⟩) := hk 7 (by rfl)
                                have h96 : A.tmps[96]?.getD undef = arr (laterS (relV (acqV V)) S) := he 1 (by kernel_rfl) (by rfl)
                                exact y_store (cells := arrC (laterS (relV (acqV V)) S)) rfl h7 h96 hMs.at7 arrSize rfl (four_one _ _ _ _) (by have := HR2.out.grow; omega) (fun _ _ => trivial) (hMs.out2 _)
                              · simp at hji
                            · intro xs W hz hMe hV
                              have hMe : FnD w (scV (relV (acqV V)) S) (laterS (relV (acqV V)) S) (vsC (scV (relV (acqV V)) S)) (arrC (laterS (relV (acqV V)) S)) W := hMe
                              have e8 : xs 4 = .bool true := hV 4 (by simp) rfl
                              simp only [putM, Act.put, List.setIfInBounds_toArray, List.set_cons_zero, List.set_cons_succ, Nat.zero_add, Nat.reduceAdd, e8]
                              clear hV e8
                              generalize W = W4 at hMe ⊢
                              have HY := Lib.hid hMe
                              clear hMe hz HR2
                              go_wp2_with fail
                              exact bodyPost_ret (v := .tuple #[.agg (vsC (scV (relV (acqV V)) S)), arr (laterS (relV (acqV V)) S), .bool true]) (dresult_sab Try.results7 rfl rfl rfl HY.out.at6 HY.out.at7) rfl ⟨by rw [hv.out, hs.out, hk.out], HY.out.low⟩
end Go.Proofs.Ytanbkclomjbokaa.Tvw
