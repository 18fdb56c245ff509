/- Layer 13 (tview): Write. -/
import Derived.Test.YtanbkclomjbokaaTvwF
namespace Go.Proofs.Ytanbkclomjbokaa.Tvw
open Go.RowKit Go.Proofs.Ytanbkclomjbokaa.Mem Go.Proofs.Ytanbkclomjbokaa.Flow Go.Proofs.Ytanbkclomjbokaa.Vew

structure WrAt (w : World) (V : Nat → Nat → Int) (m : Nat → Int) (r q : Array Value) (W : World) : Prop where
  at5 : Sits W w.heap.size 29 (vsC V)
  at9 : Sits W (w.heap.size + 1) 26 (vwC m)
  at10 : Sits W (w.heap.size + 1 + 1) 29 r
  at11 : Sits W (w.heap.size + 1 + 1 + 1) 26 q
  low : Below w.heap.size w W
  grow : w.heap.size + 4 ≤ W.heap.size
/-- Beside it, what is known of the location, and its rel. -/
structure WrBx (w : World) (V : Nat → Nat → Int) (m : Nat → Int) (r q : Array Value) (ga : Nat) (a : Nat → Int) (gr : Nat) (b : Nat → Int) (W : World) : Prop where
  at' : WrAt w V m r q W
  ba : Sits W ga 26 (vwC a)
  bb : Sits W gr 26 (vwC b)
  la : w.heap.size + 4 ≤ ga
  lb : ga < gr
section
variable {w W W' : World} {V : Nat → Nat → Int} {m a b : Nat → Int} {r q : Array Value} {ga gr : Nat}
theorem WrAt.grown (h : WrAt w V m r q W) (hb : Below W.heap.size W W') : WrAt w V m r q W' :=
  ⟨h.at5.below hb h.at5.lt, h.at9.below hb h.at9.lt, h.at10.below hb h.at10.lt, h.at11.below hb h.at11.lt, h.low.trans (hb.mono h.low.size), by have := h.grow; have := hb.size; omega⟩
theorem WrAt.setK (h : WrAt w V m r q W) (k o : Nat) (f : Nat → Int) (ho : o = 8 * k) : WrAt w (setV V k f) m r q (W.setCells w.heap.size o (vwC f).toList) :=
  ⟨vs_set h.at5 k o f ho, (setCells_other _ _ _ _ _ (by omega)).trans h.at9, (setCells_other _ _ _ _ _ (by omega)).trans h.at10, (setCells_other _ _ _ _ _ (by omega)).trans h.at11, h.low.trans (below_cells (by omega)), by rw [setCells_size]; exact h.grow⟩
theorem WrAt.out (h : WrAt w V m r q W) (u : Array Value) : WrAt w V m u q (W.setRow (w.heap.size + 1 + 1) u) :=
  ⟨(setRow_other _ _ _ _ (by omega)).trans h.at5, (setRow_other _ _ _ _ (by omega)).trans h.at9, setRow_heap _ _ _ _ _ _ h.at10, (setRow_other _ _ _ _ (by omega)).trans h.at11, h.low.trans (below_row (by omega)), by simpa [World.setRow] using h.grow⟩
theorem WrAt.out2 (h : WrAt w V m r q W) (u : Array Value) : WrAt w V m r u (W.setRow (w.heap.size + 1 + 1 + 1) u) :=
  ⟨(setRow_other _ _ _ _ (by omega)).trans h.at5, (setRow_other _ _ _ _ (by omega)).trans h.at9, (setRow_other _ _ _ _ (by omega)).trans h.at10, setRow_heap _ _ _ _ _ _ h.at11, h.low.trans (below_row (by omega)), by simpa [World.setRow] using h.grow⟩
theorem WrAt.row (h : WrAt w V m r q W) (g : Nat) (hg : w.heap.size + 4 ≤ g) (u : Array Value) : WrAt w V m r q (W.setRow g u) :=
  ⟨(setRow_other _ _ _ _ (by omega)).trans h.at5, (setRow_other _ _ _ _ (by omega)).trans h.at9, (setRow_other _ _ _ _ (by omega)).trans h.at10, (setRow_other _ _ _ _ (by omega)).trans h.at11, h.low.trans (below_row (by omega)), by simpa [World.setRow] using h.grow⟩
theorem WrAt.cur (h : WrAt w V m r q W) (k : Nat) (hk : k < 8) : W.cell? ⟨w.heap.size, k, none⟩ = some (.int .i64 (V 0 k)) := by
  rw [h.at5.cell]; exact vsC_at V 0 k k (by omega) hk (by omega)
theorem WrBx.grown (h : WrBx w V m r q ga a gr b W) (hb : Below W.heap.size W W') : WrBx w V m r q ga a gr b W' := ⟨h.at'.grown hb, h.ba.below hb h.ba.lt, h.bb.below hb h.bb.lt, h.la, h.lb⟩
theorem WrBx.setK (h : WrBx w V m r q ga a gr b W) (k o : Nat) (f : Nat → Int) (ho : o = 8 * k) : WrBx w (setV V k f) m r q ga a gr b (W.setCells w.heap.size o (vwC f).toList) :=
  ⟨h.at'.setK k o f ho, (setCells_other _ _ _ _ _ (by have := h.la; omega)).trans h.ba, (setCells_other _ _ _ _ _ (by have := h.la; have := h.lb; omega)).trans h.bb, h.la, h.lb⟩
theorem WrBx.say (h : WrBx w V m r q ga a gr b W) (u : Nat → Int) : WrBx w V m r q ga a gr u (W.setRow gr (vwC u)) :=
  ⟨h.at'.row gr (by have := h.la; have := h.lb; omega) _, (setRow_other _ _ _ _ (Nat.ne_of_lt h.lb)).trans h.ba, setRow_heap _ _ _ _ _ _ h.bb, h.la, h.lb⟩
structure WrOne (w : World) (V : Nat → Nat → Int) (m : Nat → Int) (r q : Array Value) (ga : Nat) (a : Nat → Int) (W : World) : Prop where
  at' : WrAt w V m r q W
  ba : Sits W ga 26 (vwC a)
  la : w.heap.size + 4 ≤ ga
theorem WrOne.grown (h : WrOne w V m r q ga a W) (hb : Below W.heap.size W W') : WrOne w V m r q ga a W' := ⟨h.at'.grown hb, h.ba.below hb h.ba.lt, h.la⟩
theorem WrAt.boxed (h : WrAt w V m r q W) (a : Nat → Int) : WrOne w V m r q W.heap.size a ((W.alloc (.cells zero8 26)).setRow W.heap.size (vwC a)) :=
  ⟨(h.grown ((Below.refl _ W).alloc (Nat.le_refl _) _)).row _ h.grow _, setRow_heap _ _ _ _ _ _ (Sits.new _ _ _), h.grow⟩
theorem WrOne.two (h : WrOne w V m r q ga a W) {gx : Nat} (hs : Sits W gx 26 zero8) (hg : ga < gx) (b : Nat → Int) : WrBx w V m r q ga a gx b (W.setRow gx (vwC b)) :=
  ⟨h.at'.row gx (by have := h.la; omega) _, (setRow_other _ _ _ _ (Nat.ne_of_lt hg)).trans h.ba, setRow_heap _ _ _ _ _ _ hs, h.la, hg⟩
theorem WrBx.out (h : WrBx w V m r q ga a gr b W) (u : Array Value) : WrBx w V m u q ga a gr b (W.setRow (w.heap.size + 1 + 1) u) :=
  ⟨h.at'.out u, (setRow_other _ _ _ _ (by have := h.la; omega)).trans h.ba, (setRow_other _ _ _ _ (by have := h.la; have := h.lb; omega)).trans h.bb, h.la, h.lb⟩
theorem WrBx.out2 (h : WrBx w V m r q ga a gr b W) (u : Array Value) : WrBx w V m r u ga a gr b (W.setRow (w.heap.size + 1 + 1 + 1) u) :=
  ⟨h.at'.out2 u, (setRow_other _ _ _ _ (by have := h.la; omega)).trans h.ba, (setRow_other _ _ _ _ (by have := h.la; have := h.lb; omega)).trans h.bb, h.la, h.lb⟩
theorem writeAt_new (w : World) (V : Nat → Nat → Int) (m : Nat → Int) : WrAt w V m zero48 zero8 ((((w.alloc (.cells (vsC V) 29)).alloc (.cells (vwC m) 26)).alloc (.cells zero48 29)).alloc (.cells zero8 26)) :=
  ⟨(((Sits.new _ _ _).alloc _).alloc _).alloc _, ((Sits.made (by simp) _ _).alloc _).alloc _, (Sits.made (by simp) _ _).alloc _, Sits.made (by simp) _ _,
    below_more (below3 _ _ _ _) (by simp; omega) _, by simp⟩
end
/-- A new box that is known whole. -/
def boxV (B : Nat) (t : TypeId) (cs : Array Value) : Value → World → Prop := fun u W => ∃ g, B ≤ g ∧ Sits W g t cs ∧ u = .pointer (some ⟨g, 0, none⟩)
theorem boxV_mono (B : Nat) (t : TypeId) (cs : Array Value) : Mono (boxV B t cs) := fun _ _ _ ⟨g, hB, hs, hu⟩ hb => ⟨g, hB, hs.below hb hs.lt, hu⟩
theorem result_svb {fn : Func} {p p2 q : Tmp} (h : fn.results = #[.cell p 29, .cell p2 26, .tmp q]) {T : Array Value} {W : World} {g g2 : Nat} {V : Nat → Nat → Int} {f : Nat → Int} {b : Bool} (hp : T.getD p undef = .pointer (some ⟨g, 0, none⟩)) (hp2 : T.getD p2 undef = .pointer (some ⟨g2, 0, none⟩))
    (hq : T.getD q undef = .bool b) (hs : Sits W g 29 (vsC V)) (hs2 : Sits W g2 26 (vwC f)) : (results fn T).run Try.prog W = .ok (.tuple #[.agg (vsC V), .agg (vwC f), .bool b]) W := by
  have hl := run_loadVar_row (P := Try.prog) W g 29 29 (vsC V) (0, 0) _ hs Try.underlying29 rfl (by rw [vsC_size]; exact vsSize)
  have hl2 := run_loadVar_row (P := Try.prog) W g2 26 26 (vwC f) (0, 0) _ hs2 Try.underlying26 rfl vewSize
  have hp' : T[p]?.getD undef = .pointer (some ⟨g, 0, none⟩) := by simpa using hp
  have hp2' : T[p2]?.getD undef = .pointer (some ⟨g2, 0, none⟩) := by simpa using hp2
  have hq' : T[q]?.getD undef = .bool b := by simpa using hq
  simp [results, h, hp', hp2', hq', asAddr, hl, hl2]
def writeOk (V : Nat → Nat → Int) (loc tt mo : Int) : Bool := lowT loc tt && (decide (mo = 1) || decide (mo = 2) || decide (mo = 4)) && decide (V 0 (loc.toNat + 4) < tt)
def relN (V : Nat → Nat → Int) (l : Nat) (tt mo : Int) : Nat → Int := if mo = 4 then maxF (maxF (V (l + 2)) (atF l tt true)) (V 0) else maxF (V (l + 2)) (atF l tt true)
def writeF (V : Nat → Nat → Int) (l : Nat) (tt mo : Int) : Nat → Nat → Int := setV (setV (setV V 0 (maxF (V 0) (atF l tt true))) 1 (maxF (V 1) (atF l tt true))) (l + 2) (relN V l tt mo)
def writeV (V : Nat → Nat → Int) (loc tt mo : Int) : Nat → Nat → Int := if writeOk V loc tt mo then writeF V loc.toNat tt mo else V
def writeM (V : Nat → Nat → Int) (loc tt mo : Int) (m : Nat → Int) : Nat → Int := if writeOk V loc tt mo && !decide (mo = 1) then maxF (relN V loc.toNat tt mo) m else zeroF
set_option maxRecDepth 100000 in
set_option maxHeartbeats 4000000 in
theorem write_any (V : Nat → Nat → Int) (loc tt mo : Int) (m : Nat → Int) (w : World) :
    Calls Try.prog 8 #[.agg (vsC V), .int .i64 loc, .int .i64 tt, .int .u8 mo, .agg (vwC m)] w (Made (.returned (.tuple #[.agg (vsC (writeV V loc tt mo)), .agg (vwC (writeM V loc tt mo m)), .bool (writeOk V loc tt mo)])) w) := by
  have HB := Lib.hid (writeAt_new w V m)
  have en1 := tell1_enters
  unfold EntersV at en1
  have en0 := tell0_enters
  unfold EntersV at en0
  by_cases hlow : lowT loc tt = true
  rotate_left
  ·
    have hk : Hid (writeOk V loc tt mo = false) := Lib.hid (by unfold writeOk; simp [hlow])
    have hv : Hid (writeV V loc tt mo = V) := Lib.hid (by unfold writeV; rw [hk.out]; rfl)
    have hm : Hid (writeM V loc tt mo m = zeroF) := Lib.hid (by unfold writeM; rw [hk.out]; rfl)
    have hf : lowT loc tt = false := by simpa using hlow
    clear hlow en1 en0
    go_enter Try.func8, Try.ntmps8
    go_upto_region 1 with (fail)
    generalize (((w.alloc (.cells (vsC V) 29)).alloc (.cells (vwC m) 26)).alloc (.cells zero48 29)).alloc (.cells zero8 26) = w0 at HB ⊢
    go_upto_region 2 with (go_at_call 27; refine (may2_any _ _ _).mono ?_; rintro e' w' ⟨rfl, h⟩; rw [h]; clear h w')
    have s5 := (HB.out).at5
    go_wp2_with (first | refine wpList_load_row rfl 29 _ rfl _ rfl _ (vsC V) (0, 0) _ s5 Try.underlying29 rfl (by rw [vsC_size]; exact vsSize) ?_ | refine wpList_store_row rfl 29 _ _ rfl (w.heap.size + 1 + 1) (vsC V) rfl rfl 29 zero48 (HB.out).at10 (by rw [vsC_size]; exact vsSize) (zero48_size.trans (vsC_size _).symm) (vsC_one _) ?_ | refine wpList_store_row rfl 26 _ _ rfl (w.heap.size + 1 + 1 + 1) (vwC zeroF) rfl rfl 26 zero8 ((HB.out).out (vsC V)).at11 vewSize rfl (vwC_one _) ?_)
    clear s5
    have HE2 := Lib.hid (((HB.out).out (vsC V)).out2 (vwC zeroF))
    generalize (w0.setRow (w.heap.size + 1 + 1) (vsC V)).setRow (w.heap.size + 1 + 1 + 1) (vwC zeroF) = WE2 at HE2 ⊢
    go_wp2_with fail
    exact bodyPost_ret (v := .tuple #[.agg (vsC V), .agg (vwC zeroF), .bool false]) (result_svb Try.results8 rfl rfl rfl HE2.out.at10 HE2.out.at11) rfl ⟨by rw [hv.out, hm.out, hk.out], HE2.out.low⟩
  have hlo := hlow
  simp only [lowT, Bool.and_eq_true, decide_eq_true_eq] at hlo
  obtain ⟨⟨hl0, hl4⟩, ht0⟩ := hlo
  obtain ⟨l, hloc⟩ : ∃ l : Nat, loc = (l : Int) := ⟨loc.toNat, by omega⟩
  have hl : l < 4 := by omega
  have HL := Lib.hid hl
  have HN : Hid (loc.toNat = l) := Lib.hid (by omega)
  clear hl0 ht0 hl4
  by_cases hfr : V 0 (l + 4) < tt
  rotate_left
  ·
    have k0 : tt ≤ V 0 (l + 4) := by omega
    have hk : Hid (writeOk V loc tt mo = false) := Lib.hid (by unfold writeOk; rw [HN.out]; simp [hfr])
    have hv : Hid (writeV V loc tt mo = V) := Lib.hid (by unfold writeV; rw [hk.out]; rfl)
    have hm : Hid (writeM V loc tt mo m = zeroF) := Lib.hid (by unfold writeM; rw [hk.out]; rfl)
    subst hloc
    clear hfr en1 en0
    go_enter Try.func8, Try.ntmps8
    go_upto_region 1 with (fail)
    generalize (((w.alloc (.cells (vsC V) 29)).alloc (.cells (vwC m) 26)).alloc (.cells zero48 29)).alloc (.cells zero8 26) = w0 at HB ⊢
    have d0 : w0.cell? ⟨w.heap.size, 4 + l, none⟩ = some (.int .i64 (V 0 (l + 4))) := by rw [Nat.add_comm 4 l]; exact HB.out.cur (l + 4) (by have := HL.out; omega)
    have i0 : (0 : Int) ≤ (l : Int) := by omega
    have i4 : (l : Int) < 4 := by have := HL.out; omega
    go_upto_region 2 with (go_at_call 27; refine (may2_any _ _ _).mono ?_; rintro e' w' ⟨rfl, h⟩; rw [h]; clear h w')
    clear d0
    have s5 := (HB.out).at5
    go_wp2_with (first | refine wpList_load_row rfl 29 _ rfl _ rfl _ (vsC V) (0, 0) _ s5 Try.underlying29 rfl (by rw [vsC_size]; exact vsSize) ?_ | refine wpList_store_row rfl 29 _ _ rfl (w.heap.size + 1 + 1) (vsC V) rfl rfl 29 zero48 (HB.out).at10 (by rw [vsC_size]; exact vsSize) (zero48_size.trans (vsC_size _).symm) (vsC_one _) ?_ | refine wpList_store_row rfl 26 _ _ rfl (w.heap.size + 1 + 1 + 1) (vwC zeroF) rfl rfl 26 zero8 ((HB.out).out (vsC V)).at11 vewSize rfl (vwC_one _) ?_)
    clear s5
    have HE2 := Lib.hid (((HB.out).out (vsC V)).out2 (vwC zeroF))
    generalize (w0.setRow (w.heap.size + 1 + 1) (vsC V)).setRow (w.heap.size + 1 + 1 + 1) (vwC zeroF) = WE2 at HE2 ⊢
    go_wp2_with fail
    exact bodyPost_ret (v := .tuple #[.agg (vsC V), .agg (vwC zeroF), .bool false]) (result_svb Try.results8 rfl rfl rfl HE2.out.at10 HE2.out.at11) rfl ⟨by rw [hv.out, hm.out, hk.out], HE2.out.low⟩
  have k0 : ¬ tt ≤ V 0 (l + 4) := by omega
  by_cases h1 : mo = 1
  ·
    subst h1
    have hk : Hid (writeOk V loc tt 1 = true) := Lib.hid (by unfold writeOk; rw [HN.out]; simp [hlow, hfr])
    have hv : Hid (writeV V loc tt 1 = setV (setV (setV V 0 (maxF (V 0) (atF l tt true))) 1 (maxF (V 1) (atF l tt true))) (l + 2) (maxF (V (l + 2)) (atF l tt true))) := Lib.hid (by unfold writeV; rw [hk.out, HN.out]; rfl)
    have hm : Hid (writeM V loc tt 1 m = zeroF) := Lib.hid (by unfold writeM; rw [hk.out, HN.out]; rfl)
    subst hloc
    clear hfr
    go_enter Try.func8, Try.ntmps8
    go_upto_region 1 with (fail)
    generalize (((w.alloc (.cells (vsC V) 29)).alloc (.cells (vwC m) 26)).alloc (.cells zero48 29)).alloc (.cells zero8 26) = w0 at HB ⊢
    have d0 : w0.cell? ⟨w.heap.size, 4 + l, none⟩ = some (.int .i64 (V 0 (l + 4))) := by rw [Nat.add_comm 4 l]; exact HB.out.cur (l + 4) (by have := HL.out; omega)
    have i0 : (0 : Int) ≤ (l : Int) := by omega
    have i4 : (l : Int) < 4 := by have := HL.out; omega
    go_upto_region 3 with (go_at_call 27; refine (may2_any _ _ _).mono ?_; rintro e' w' ⟨rfl, h⟩; rw [h]; clear h w')
    clear d0 k0
    go_wp2_with fail
    refine (at_v _ _ _ _).mono ?_
    rintro e' w1 ⟨rfl, hb⟩
    have HB1 := Lib.hid (HB.out.grown hb)
    clear hb HB
    go_upto_region 4 with (refine wpList_store_row rfl 26 _ _ rfl (w1.heap.size) (vwC (atF l tt true)) rfl rfl 26 zero8 (Sits.new _ _ _) vewSize rfl (vwC_one _) ?_)
    have HO := Lib.hid (HB1.out.boxed (atF l tt true))
    generalize (w1.alloc (.cells zero8 26)).setRow w1.heap.size (vwC (atF l tt true)) = w2 at HO ⊢
    generalize w1.heap.size = ga at HO ⊢
    clear HB1
    refine wp_flowG [34, 35, 36, 37, 38, 39, 40, 14] [eqV (.int .i64 (l : Nat)), eqV (.pointer (some ⟨w.heap.size, 16, none⟩)), eqV (.pointer (some ⟨w.heap.size, 16 + l * 8, none⟩)), eqV (.agg (vwC (V (l + 2)))), eqV (.agg (vwC (atF l tt true))), rowV 26 1 (vwC (atF l tt true)), eqV (.agg (vwC (maxF (V (l + 2)) (atF l tt true)))), boxV w2.heap.size 26 zero8] (by kernel_rfl) (by kernel_rfl) (by kernel_rfl) (by kernel_rfl) (by rfl)
      (by simp only [List.mem_cons, List.not_mem_nil, or_false, forall_eq_or_imp, forall_eq]; refine ⟨?_, ?_, ?_, ?_, ?_, ?_, ?_, ?_⟩ <;> (first | exact eqV_mono _ | exact rowV_mono _ _ _ | exact boxV_mono _ _ _)) ?_ ?_
    · intro i o hi ho A W hW hk he
      simp only [List.length_cons, List.length_nil, Nat.zero_add, Nat.reduceAdd] at hi
      obtain rfl | rfl | rfl | rfl | rfl | rfl | rfl | rfl : i = 0 ∨ i = 1 ∨ i = 2 ∨ i = 3 ∨ i = 4 ∨ i = 5 ∨ i = 6 ∨ i = 7 := by omega
      · injection ho with ho; subst ho
        refine .inl ⟨wanted_free rfl, ?_⟩
        have h1 : A.tmps[1]?.getD undef = .int .i64 (l : Nat) := hk 1 (by rfl)
        go_simp
        exact ⟨rfl, Below.refl _ _⟩
      · injection ho with ho; subst ho
        refine .inl ⟨wanted_free rfl, ?_⟩
        have h5 : A.tmps[5]?.getD undef = .pointer (some ⟨w.heap.size, 0, none⟩) := hk 5 (by rfl)
        go_simp
        exact ⟨rfl, Below.refl _ _⟩
      · injection ho with ho; subst ho
        refine .inl ⟨wanted_free rfl, ?_⟩
        have h35 : A.tmps[35]?.getD undef = .pointer (some ⟨w.heap.size, 16, none⟩) := he 1 (by kernel_rfl)
        have h34 : A.tmps[34]?.getD undef = .int .i64 (l : Nat) := he 0 (by kernel_rfl)
        go_simp
        exact ⟨rfl, Below.refl _ _⟩
      · injection ho with ho; subst ho
        refine .inl ⟨wanted_free rfl, ?_⟩
        have h36 : A.tmps[36]?.getD undef = .pointer (some ⟨w.heap.size, 16 + l * 8, none⟩) := he 2 (by kernel_rfl)
        exact y_load (cs := vwC (V (l + 2))) rfl h36 (vs_range (V := V) ((HO.out.grown hW).at'.at5) ((l + 2)) _ (by have := HL.out; omega) (by omega)) Try.underlying26 rfl vewSize
      · injection ho with ho; subst ho
        refine .inl ⟨wanted_free rfl, ?_⟩
        have h13 : A.tmps[13]?.getD undef = .pointer (some ⟨ga, 0, none⟩) := hk 13 (by rfl)
        exact y_load (cs := vwC (atF l tt true)) rfl h13 (sits_range ((HO.out.grown hW).ba)) Try.underlying26 rfl vewSize
      · injection ho with ho; subst ho
        refine .inl ⟨wanted_free rfl, ?_⟩
        have h38 : A.tmps[38]?.getD undef = .agg (vwC (atF l tt true)) := he 4 (by kernel_rfl)
        exact y_one rfl h38
      · injection ho with ho; subst ho
        refine .inl ⟨wanted_free rfl, ?_⟩
        have h37 : A.tmps[37]?.getD undef = .agg (vwC (V (l + 2))) := he 3 (by kernel_rfl)
        obtain ⟨gr39, h39, hr39⟩ : rowV 26 1 (vwC (atF l tt true)) (A.tmps[39]?.getD undef) W := he 5 (by kernel_rfl)
        go_simp
        refine Calls.mono (join_v (V (l + 2)) (atF l tt true) gr39 _ W hr39) ?_
        rintro e' w' ⟨rfl, hb⟩
        exact ⟨_, rfl, rfl, hb⟩
      · injection ho with ho; subst ho
        refine .inl ⟨wanted_free rfl, ?_⟩
        go_simp
        exact ⟨⟨_, hW.size, Sits.new _ _ _, rfl⟩, (Below.refl _ _).alloc (Nat.le_refl _) _⟩
    · intro xs W hW hV
      obtain ⟨gx14, hB14, hs14, e14⟩ : boxV w2.heap.size 26 zero8 (xs 7) W := hV 7 (by simp)
      have e40 : xs 6 = .agg (vwC (maxF (V (l + 2)) (atF l tt true))) := hV 6 (by simp)
      simp only [List.length_cons, List.length_nil, Nat.zero_add, Nat.reduceAdd, List.drop_succ_cons, List.drop_zero, putL, Act.put, List.setIfInBounds_toArray, List.set_cons_zero, List.set_cons_succ, e14, e40]
      clear hV e14 e40
      refine wpList_store_row rfl 26 _ _ rfl gx14 (vwC (maxF (V (l + 2)) (atF l tt true))) rfl rfl 26 zero8 hs14 vewSize rfl (vwC_one _) ?_
      have HX := Lib.hid ((HO.out.grown hW).two hs14 (Nat.lt_of_lt_of_le HO.out.ba.lt hB14) (maxF (V (l + 2)) (atF l tt true)))
      generalize W.setRow gx14 (vwC (maxF (V (l + 2)) (atF l tt true))) = W1 at HX ⊢
      clear hW hs14 hB14 HO
      go_upto_region 13 with (fail)
      refine wp_flowM [some 56, some 57, some 58, some 59, some 60, some 61, some 62, some 63, some 64, some 65, some 66, some 67, some 68, none, some 69, none, some 70, some 71, none] [13, 15, 18] [2, 0, 0, 0, 0, 0, 0, 0, 1, 1, 0, 2, 0, 0, 1, 0, 3, 2, 0] [eqV (.int .i64 (l : Nat)), eqV (.pointer (some ⟨w.heap.size, 0, none⟩)), eqV (.agg (vwC (V 0))), eqV (.agg (vwC (atF l tt true))), rowB _ 26 1 (vwC (atF l tt true)), eqV (.agg (vwC (maxF (V 0) (atF l tt true)))), eqV (.pointer (some ⟨w.heap.size, 8, none⟩)), eqV (.agg (vwC (V 1))), eqV (.agg (vwC (atF l tt true))), rowB _ 26 1 (vwC (atF l tt true)), eqV (.agg (vwC (maxF (V 1) (atF l tt true)))), eqV (.agg (vwC (maxF (V (l + 2)) (atF l tt true)))), eqV (.pointer (some ⟨w.heap.size, 0, none⟩)), fun _ _ => True, eqV (.pointer (some ⟨w.heap.size, 8, none⟩)), fun _ _ => True, eqV (.pointer (some ⟨w.heap.size, 16, none⟩)), eqV (.pointer (some ⟨w.heap.size, 16 + l * 8, none⟩)), fun _ _ => True] (fun j W => match j with | 0 => WrBx w (V) m (zero48) (zero8) ga (atF l tt true) gx14 (maxF (V (l + 2)) (atF l tt true)) W | 1 => WrBx w (setV V 0 (maxF (V 0) (atF l tt true))) m (zero48) (zero8) ga (atF l tt true) gx14 (maxF (V (l + 2)) (atF l tt true)) W | 2 => WrBx w (setV (setV V 0 (maxF (V 0) (atF l tt true))) 1 (maxF (V 1) (atF l tt true))) m (zero48) (zero8) ga (atF l tt true) gx14 (maxF (V (l + 2)) (atF l tt true)) W | _ => WrBx w (setV (setV (setV V 0 (maxF (V 0) (atF l tt true))) 1 (maxF (V 1) (atF l tt true))) (l + 2) (maxF (V (l + 2)) (atF l tt true))) m (zero48) (zero8) ga (atF l tt true) gx14 (maxF (V (l + 2)) (atF l tt true)) W) (by kernel_rfl) (by kernel_rfl) (by kernel_rfl) (by rfl)
        (by simp only [List.mem_cons, List.not_mem_nil, or_false, forall_eq_or_imp, forall_eq]; refine ⟨?_, ?_, ?_, ?_, ?_, ?_, ?_, ?_, ?_, ?_, ?_, ?_, ?_, ?_, ?_, ?_, ?_, ?_, ?_⟩ <;> (first | exact eqV_monoB _ _ | exact rowB_mono _ _ _ _ | exact true_monoB _))
        (fun j W W' h hb => by rcases j with _ | _ | _ | j <;> first | exact (WrBx.grown h hb)) (HX.out) ?_ ?_ ?_
      · intro i o hi ho hc j A W hj hz hMj hk he
        simp only [List.length_cons, List.length_nil, Nat.zero_add, Nat.reduceAdd] at hi
        obtain rfl | rfl | rfl | rfl | rfl | rfl | rfl | rfl | rfl | rfl | rfl | rfl | rfl | rfl | rfl | rfl | rfl | rfl | rfl : i = 0 ∨ i = 1 ∨ i = 2 ∨ i = 3 ∨ i = 4 ∨ i = 5 ∨ i = 6 ∨ i = 7 ∨ i = 8 ∨ i = 9 ∨ i = 10 ∨ i = 11 ∨ i = 12 ∨ i = 13 ∨ i = 14 ∨ i = 15 ∨ i = 16 ∨ i = 17 ∨ i = 18 := by omega
        · injection ho with ho; subst ho
          refine .inl ⟨wanted_free rfl, ?_⟩
          have h1 : A.tmps[1]?.getD undef = .int .i64 (l : Nat) := hk 1 (by rfl)
          go_simp
          exact ⟨rfl, Below.refl _ _⟩
        · injection ho with ho; subst ho
          refine .inl ⟨wanted_free rfl, ?_⟩
          have h5 : A.tmps[5]?.getD undef = .pointer (some ⟨w.heap.size, 0, none⟩) := hk 5 (by rfl)
          go_simp
          exact ⟨rfl, Below.refl _ _⟩
        · obtain rfl : j = 0 := Nat.le_zero.1 hj
          have hMs : WrBx w (V) m (zero48) (zero8) ga (atF l tt true) gx14 (maxF (V (l + 2)) (atF l tt true)) W := hMj
          injection ho with ho; subst ho
          refine .inl ⟨wanted_free rfl, ?_⟩
          have h57 : A.tmps[57]?.getD undef = .pointer (some ⟨w.heap.size, 0, none⟩) := he 1 (by kernel_rfl) (by rfl)
          exact y_load (cs := vwC (V 0)) rfl h57 (vs_range (V := V) (hMs.at'.at5) (0) _ (by omega) rfl) Try.underlying26 rfl vewSize
        · obtain rfl : j = 0 := Nat.le_zero.1 hj
          have hMs : WrBx w (V) m (zero48) (zero8) ga (atF l tt true) gx14 (maxF (V (l + 2)) (atF l tt true)) W := hMj
          injection ho with ho; subst ho
          refine .inl ⟨wanted_free rfl, ?_⟩
          have h13 : A.tmps[13]?.getD undef = .pointer (some ⟨ga, 0, none⟩) := hk 13 (by rfl)
          exact y_load (cs := vwC (atF l tt true)) rfl h13 (sits_range (hMs.ba)) Try.underlying26 rfl vewSize
        · injection ho with ho; subst ho
          refine .inl ⟨wanted_free rfl, ?_⟩
          have h59 : A.tmps[59]?.getD undef = .agg (vwC (atF l tt true)) := he 3 (by kernel_rfl) (by rfl)
          exact y_oneB hz rfl h59
        · obtain rfl : j = 0 := Nat.le_zero.1 hj
          have hMs : WrBx w (V) m (zero48) (zero8) ga (atF l tt true) gx14 (maxF (V (l + 2)) (atF l tt true)) W := hMj
          injection ho with ho; subst ho
          refine .inl ⟨wanted_free rfl, ?_⟩
          have h58 : A.tmps[58]?.getD undef = .agg (vwC (V 0)) := he 2 (by kernel_rfl) (by rfl)
          obtain ⟨gr60, hg60, h60, hr60⟩ : rowB _ 26 1 (vwC (atF l tt true)) (A.tmps[60]?.getD undef) W := he 4 (by kernel_rfl) (by rfl)
          go_simp
          refine Calls.mono (join_v (V 0) (atF l tt true) gr60 _ W hr60) ?_
          rintro e' w' ⟨rfl, hb⟩
          exact ⟨_, rfl, rfl, hb⟩
        · injection ho with ho; subst ho
          refine .inl ⟨wanted_free rfl, ?_⟩
          have h5 : A.tmps[5]?.getD undef = .pointer (some ⟨w.heap.size, 0, none⟩) := hk 5 (by rfl)
          go_simp
          exact ⟨rfl, Below.refl _ _⟩
        · obtain rfl : j = 0 := Nat.le_zero.1 hj
          have hMs : WrBx w (V) m (zero48) (zero8) ga (atF l tt true) gx14 (maxF (V (l + 2)) (atF l tt true)) W := hMj
          injection ho with ho; subst ho
          refine .inl ⟨wanted_free rfl, ?_⟩
          have h62 : A.tmps[62]?.getD undef = .pointer (some ⟨w.heap.size, 8, none⟩) := he 6 (by kernel_rfl) (by rfl)
          exact y_load (cs := vwC (V 1)) rfl h62 (vs_range (V := V) (hMs.at'.at5) (1) _ (by omega) rfl) Try.underlying26 rfl vewSize
        · have hj2 : j ≤ 1 := hj
          rcases j with _ | _ | j
          · have hMs : WrBx w (V) m (zero48) (zero8) ga (atF l tt true) gx14 (maxF (V (l + 2)) (atF l tt true)) W := hMj
            injection ho with ho; subst ho
            refine .inl ⟨wanted_free rfl, ?_⟩
            have h13 : A.tmps[13]?.getD undef = .pointer (some ⟨ga, 0, none⟩) := hk 13 (by rfl)
            exact y_load (cs := vwC (atF l tt true)) rfl h13 (sits_range (hMs.ba)) Try.underlying26 rfl vewSize
          · have hMs : WrBx w (setV V 0 (maxF (V 0) (atF l tt true))) m (zero48) (zero8) ga (atF l tt true) gx14 (maxF (V (l + 2)) (atF l tt true)) W := hMj
            injection ho with ho; subst ho
            refine .inl ⟨wanted_free rfl, ?_⟩
            have h13 : A.tmps[13]?.getD undef = .pointer (some ⟨ga, 0, none⟩) := hk 13 (by rfl)
            exact y_load (cs := vwC (atF l tt true)) rfl h13 (sits_range (hMs.ba)) Try.underlying26 rfl vewSize
          · omega
        · injection ho with ho; subst ho
          refine .inl ⟨wanted_free rfl, ?_⟩
          have h64 : A.tmps[64]?.getD undef = .agg (vwC (atF l tt true)) := he 8 (by kernel_rfl) (by rfl)
          exact y_oneB hz rfl h64
        · obtain rfl : j = 0 := Nat.le_zero.1 hj
          have hMs : WrBx w (V) m (zero48) (zero8) ga (atF l tt true) gx14 (maxF (V (l + 2)) (atF l tt true)) W := hMj
          injection ho with ho; subst ho
          refine .inl ⟨wanted_free rfl, ?_⟩
          have h63 : A.tmps[63]?.getD undef = .agg (vwC (V 1)) := he 7 (by kernel_rfl) (by rfl)
          obtain ⟨gr65, hg65, h65, hr65⟩ : rowB _ 26 1 (vwC (atF l tt true)) (A.tmps[65]?.getD undef) W := he 9 (by kernel_rfl) (by rfl)
          go_simp
          refine Calls.mono (join_v (V 1) (atF l tt true) gr65 _ W hr65) ?_
          rintro e' w' ⟨rfl, hb⟩
          exact ⟨_, rfl, rfl, hb⟩
        · have hj2 : j ≤ 2 := hj
          rcases j with _ | _ | _ | j
          · have hMs : WrBx w (V) m (zero48) (zero8) ga (atF l tt true) gx14 (maxF (V (l + 2)) (atF l tt true)) W := hMj
            injection ho with ho; subst ho
            refine .inl ⟨wanted_free rfl, ?_⟩
            have h14 : A.tmps[14]?.getD undef = .pointer (some ⟨gx14, 0, none⟩) := hk 14 (by rfl)
            exact y_load (cs := vwC (maxF (V (l + 2)) (atF l tt true))) rfl h14 (sits_range (hMs.bb)) Try.underlying26 rfl vewSize
          · have hMs : WrBx w (setV V 0 (maxF (V 0) (atF l tt true))) m (zero48) (zero8) ga (atF l tt true) gx14 (maxF (V (l + 2)) (atF l tt true)) W := hMj
            injection ho with ho; subst ho
            refine .inl ⟨wanted_free rfl, ?_⟩
            have h14 : A.tmps[14]?.getD undef = .pointer (some ⟨gx14, 0, none⟩) := hk 14 (by rfl)
            exact y_load (cs := vwC (maxF (V (l + 2)) (atF l tt true))) rfl h14 (sits_range (hMs.bb)) Try.underlying26 rfl vewSize
          · have hMs : WrBx w (setV (setV V 0 (maxF (V 0) (atF l tt true))) 1 (maxF (V 1) (atF l tt true))) m (zero48) (zero8) ga (atF l tt true) gx14 (maxF (V (l + 2)) (atF l tt true)) W := hMj
            injection ho with ho; subst ho
            refine .inl ⟨wanted_free rfl, ?_⟩
            have h14 : A.tmps[14]?.getD undef = .pointer (some ⟨gx14, 0, none⟩) := hk 14 (by rfl)
            exact y_load (cs := vwC (maxF (V (l + 2)) (atF l tt true))) rfl h14 (sits_range (hMs.bb)) Try.underlying26 rfl vewSize
          · omega
        · injection ho with ho; subst ho
          refine .inl ⟨wanted_free rfl, ?_⟩
          have h5 : A.tmps[5]?.getD undef = .pointer (some ⟨w.heap.size, 0, none⟩) := hk 5 (by rfl)
          go_simp
          exact ⟨rfl, Below.refl _ _⟩
        · exact absurd hc (by decide)
        · injection ho with ho; subst ho
          refine .inl ⟨wanted_free rfl, ?_⟩
          have h5 : A.tmps[5]?.getD undef = .pointer (some ⟨w.heap.size, 0, none⟩) := hk 5 (by rfl)
          go_simp
          exact ⟨rfl, Below.refl _ _⟩
        · exact absurd hc (by decide)
        · injection ho with ho; subst ho
          refine .inl ⟨wanted_free rfl, ?_⟩
          have h5 : A.tmps[5]?.getD undef = .pointer (some ⟨w.heap.size, 0, none⟩) := hk 5 (by rfl)
          go_simp
          exact ⟨rfl, Below.refl _ _⟩
        · injection ho with ho; subst ho
          refine .inl ⟨wanted_free rfl, ?_⟩
          have h70 : A.tmps[70]?.getD undef = .pointer (some ⟨w.heap.size, 16, none⟩) := he 16 (by kernel_rfl) (by rfl)
          have h56 : A.tmps[56]?.getD undef = .int .i64 (l : Nat) := he 0 (by kernel_rfl) (by rfl)
          go_simp
          exact ⟨rfl, Below.refl _ _⟩
        · exact absurd hc (by decide)
      · intro j i o hji ho A W hz hMj hk he
        rcases j with _ | _ | _ | j
        · obtain rfl : 13 = i := Option.some.inj hji
          injection ho with ho; subst ho
          refine .inl ⟨wanted_free rfl, ?_⟩
          have hMs : WrBx w (V) m (zero48) (zero8) ga (atF l tt true) gx14 (maxF (V (l + 2)) (atF l tt true)) W := hMj
          have h68 : A.tmps[68]?.getD undef = .pointer (some ⟨w.heap.size, 0, none⟩) := he 12 (by kernel_rfl) (by rfl)
          have h61 : A.tmps[61]?.getD undef = .agg (vwC (maxF (V 0) (atF l tt true))) := he 5 (by kernel_rfl) (by rfl)
          exact y_storeK rfl h68 h61 hMs.at'.at5 (k := 0) (by omega) (by omega) vewSize (by have := HX.out.at'.grow; omega) (fun _ _ => trivial) (hMs.setK (0) _ _ (by omega))
        · obtain rfl : 15 = i := Option.some.inj hji
          injection ho with ho; subst ho
          refine .inl ⟨wanted_free rfl, ?_⟩
          have hMs : WrBx w (setV V 0 (maxF (V 0) (atF l tt true))) m (zero48) (zero8) ga (atF l tt true) gx14 (maxF (V (l + 2)) (atF l tt true)) W := hMj
          have h69 : A.tmps[69]?.getD undef = .pointer (some ⟨w.heap.size, 8, none⟩) := he 14 (by kernel_rfl) (by rfl)
          have h66 : A.tmps[66]?.getD undef = .agg (vwC (maxF (V 1) (atF l tt true))) := he 10 (by kernel_rfl) (by rfl)
          exact y_storeK rfl h69 h66 hMs.at'.at5 (k := 1) (by omega) (by omega) vewSize (by have := HX.out.at'.grow; omega) (fun _ _ => trivial) (hMs.setK (1) _ _ (by omega))
        · obtain rfl : 18 = i := Option.some.inj hji
          injection ho with ho; subst ho
          refine .inl ⟨wanted_free rfl, ?_⟩
          have hMs : WrBx w (setV (setV V 0 (maxF (V 0) (atF l tt true))) 1 (maxF (V 1) (atF l tt true))) m (zero48) (zero8) ga (atF l tt true) gx14 (maxF (V (l + 2)) (atF l tt true)) W := hMj
          have h71 : A.tmps[71]?.getD undef = .pointer (some ⟨w.heap.size, 16 + l * 8, none⟩) := he 17 (by kernel_rfl) (by rfl)
          have h67 : A.tmps[67]?.getD undef = .agg (vwC (maxF (V (l + 2)) (atF l tt true))) := he 11 (by kernel_rfl) (by rfl)
          exact y_storeK rfl h71 h67 hMs.at'.at5 (k := l + 2) (by have := HL.out; omega) (by omega) vewSize (by have := HX.out.at'.grow; omega) (fun _ _ => trivial) (hMs.setK (l + 2) _ _ (by omega))
        · simp at hji
      · intro xs W hz hMe hV
        have hMe : WrBx w (setV (setV (setV V 0 (maxF (V 0) (atF l tt true))) 1 (maxF (V 1) (atF l tt true))) (l + 2) (maxF (V (l + 2)) (atF l tt true))) m (zero48) (zero8) ga (atF l tt true) gx14 (maxF (V (l + 2)) (atF l tt true)) W := hMe
        simp only [putM, Act.put, List.setIfInBounds_toArray, List.set_cons_zero, List.set_cons_succ, Nat.zero_add, Nat.reduceAdd]
        clear hV
        generalize W = W3 at hMe ⊢
        have HY := Lib.hid hMe
        clear hMe hz HX
        go_upto_region 14 with (fail)
        refine wp_flowM [some 72, some 73, some 74, none, none, some 12] [3, 4] [0, 1, 0, 0, 0, 2] [eqV (.agg (vsC (setV (setV (setV V 0 (maxF (V 0) (atF l tt true))) 1 (maxF (V 1) (atF l tt true))) (l + 2) (maxF (V (l + 2)) (atF l tt true))))), eqV (.func (.func 29) #[] #[]), eqV (.agg (vwC (zeroF))), fun _ _ => True, fun _ _ => True, eqV (.bool true)] (fun j W => match j with | 0 => WrBx w (setV (setV (setV V 0 (maxF (V 0) (atF l tt true))) 1 (maxF (V 1) (atF l tt true))) (l + 2) (maxF (V (l + 2)) (atF l tt true))) m (zero48) (zero8) ga (atF l tt true) gx14 (maxF (V (l + 2)) (atF l tt true)) W | 1 => WrBx w (setV (setV (setV V 0 (maxF (V 0) (atF l tt true))) 1 (maxF (V 1) (atF l tt true))) (l + 2) (maxF (V (l + 2)) (atF l tt true))) m (vsC (setV (setV (setV V 0 (maxF (V 0) (atF l tt true))) 1 (maxF (V 1) (atF l tt true))) (l + 2) (maxF (V (l + 2)) (atF l tt true)))) (zero8) ga (atF l tt true) gx14 (maxF (V (l + 2)) (atF l tt true)) W | _ => WrBx w (setV (setV (setV V 0 (maxF (V 0) (atF l tt true))) 1 (maxF (V 1) (atF l tt true))) (l + 2) (maxF (V (l + 2)) (atF l tt true))) m (vsC (setV (setV (setV V 0 (maxF (V 0) (atF l tt true))) 1 (maxF (V 1) (atF l tt true))) (l + 2) (maxF (V (l + 2)) (atF l tt true)))) (vwC (zeroF)) ga (atF l tt true) gx14 (maxF (V (l + 2)) (atF l tt true)) W) (by kernel_rfl) (by kernel_rfl) (by kernel_rfl) (by rfl)
          (by simp only [List.mem_cons, List.not_mem_nil, or_false, forall_eq_or_imp, forall_eq]; refine ⟨?_, ?_, ?_, ?_, ?_, ?_⟩ <;> (first | exact eqV_monoB _ _ | exact rowB_mono _ _ _ _ | exact true_monoB _))
          (fun j W W' h hb => by rcases j with _ | _ | j <;> first | exact (WrBx.grown h hb)) (HY.out) ?_ ?_ ?_
        · intro i o hi ho hc j A W hj hz hMj hk he
          simp only [List.length_cons, List.length_nil, Nat.zero_add, Nat.reduceAdd] at hi
          obtain rfl | rfl | rfl | rfl | rfl | rfl : i = 0 ∨ i = 1 ∨ i = 2 ∨ i = 3 ∨ i = 4 ∨ i = 5 := by omega
          · obtain rfl : j = 0 := Nat.le_zero.1 hj
            have hMs : WrBx w (setV (setV (setV V 0 (maxF (V 0) (atF l tt true))) 1 (maxF (V 1) (atF l tt true))) (l + 2) (maxF (V (l + 2)) (atF l tt true))) m (zero48) (zero8) ga (atF l tt true) gx14 (maxF (V (l + 2)) (atF l tt true)) W := hMj
            injection ho with ho; subst ho
            refine .inl ⟨wanted_free rfl, ?_⟩
            have h5 : A.tmps[5]?.getD undef = .pointer (some ⟨w.heap.size, 0, none⟩) := hk 5 (by rfl)
            exact y_load (cs := vsC (setV (setV (setV V 0 (maxF (V 0) (atF l tt true))) 1 (maxF (V 1) (atF l tt true))) (l + 2) (maxF (V (l + 2)) (atF l tt true)))) rfl h5 (sits_range (hMs.at'.at5)) Try.underlying29 rfl vsSize
          · injection ho with ho; subst ho
            refine .inl ⟨wanted_free rfl, ?_⟩
            have h15 : A.tmps[15]?.getD undef = .func (.func 29) #[] #[] := hk 15 (by rfl)
            go_simp
            exact ⟨rfl, Below.refl _ _⟩
          · obtain rfl : j = 0 := Nat.le_zero.1 hj
            have hMs : WrBx w (setV (setV (setV V 0 (maxF (V 0) (atF l tt true))) 1 (maxF (V 1) (atF l tt true))) (l + 2) (maxF (V (l + 2)) (atF l tt true))) m (zero48) (zero8) ga (atF l tt true) gx14 (maxF (V (l + 2)) (atF l tt true)) W := hMj
            injection ho with ho; subst ho
            refine .inl ⟨wanted_free rfl, ?_⟩
            have h73 : A.tmps[73]?.getD undef = .func (.func 29) #[] #[] := he 1 (by kernel_rfl) (by rfl)
            go_simp
            refine Calls.mono (tell0_any W) ?_
            rintro e' w' ⟨rfl, hb⟩
            exact ⟨_, rfl, rfl, hb⟩
          · exact absurd hc (by decide)
          · exact absurd hc (by decide)
          · injection ho with ho; subst ho
            refine .inl ⟨wanted_free rfl, ?_⟩
            go_simp
            exact ⟨rfl, Below.refl _ _⟩
        · intro j i o hji ho A W hz hMj hk he
          rcases j with _ | _ | j
          · obtain rfl : 3 = i := Option.some.inj hji
            injection ho with ho; subst ho
            refine .inl ⟨wanted_free rfl, ?_⟩
            have hMs : WrBx w (setV (setV (setV V 0 (maxF (V 0) (atF l tt true))) 1 (maxF (V 1) (atF l tt true))) (l + 2) (maxF (V (l + 2)) (atF l tt true))) m (zero48) (zero8) ga (atF l tt true) gx14 (maxF (V (l + 2)) (atF l tt true)) W := hMj
            have h10 : A.tmps[10]?.getD undef = .pointer (some ⟨w.heap.size + 1 + 1, 0, none⟩) := hk 10 (by rfl)
            have h72 : A.tmps[72]?.getD undef = .agg (vsC (setV (setV (setV V 0 (maxF (V 0) (atF l tt true))) 1 (maxF (V 1) (atF l tt true))) (l + 2) (maxF (V (l + 2)) (atF l tt true)))) := he 0 (by kernel_rfl) (by rfl)
            exact y_store rfl h10 h72 hMs.at'.at10 (by rw [vsC_size]; exact vsSize) (zero48_size.trans (vsC_size _).symm) (vsC_one _) (by have := HY.out.at'.grow; omega) (fun _ _ => trivial) (hMs.out _)
          · obtain rfl : 4 = i := Option.some.inj hji
            injection ho with ho; subst ho
            refine .inl ⟨wanted_free rfl, ?_⟩
            have hMs : WrBx w (setV (setV (setV V 0 (maxF (V 0) (atF l tt true))) 1 (maxF (V 1) (atF l tt true))) (l + 2) (maxF (V (l + 2)) (atF l tt true))) m (vsC (setV (setV (setV V 0 (maxF (V 0) (atF l tt true))) 1 (maxF (V 1) (atF l tt true))) (l + 2) (maxF (V (l + 2)) (atF l tt true)))) (zero8) ga (atF l tt true) gx14 (maxF (V (l + 2)) (atF l tt true)) W := hMj
            have h11 : A.tmps[11]?.getD undef = .pointer (some ⟨w.heap.size + 1 + 1 + 1, 0, none⟩) := hk 11 (by rfl)
            have h74 : A.tmps[74]?.getD undef = .agg (vwC (zeroF)) := he 2 (by kernel_rfl) (by rfl)
            exact y_store rfl h11 h74 hMs.at'.at11 vewSize rfl (vwC_one _) (by have := HY.out.at'.grow; omega) (fun _ _ => trivial) (hMs.out2 _)
          · simp at hji
        · intro xs W hz hMe hV
          have hMe : WrBx w (setV (setV (setV V 0 (maxF (V 0) (atF l tt true))) 1 (maxF (V 1) (atF l tt true))) (l + 2) (maxF (V (l + 2)) (atF l tt true))) m (vsC (setV (setV (setV V 0 (maxF (V 0) (atF l tt true))) 1 (maxF (V 1) (atF l tt true))) (l + 2) (maxF (V (l + 2)) (atF l tt true)))) (vwC (zeroF)) ga (atF l tt true) gx14 (maxF (V (l + 2)) (atF l tt true)) W := hMe
          have e12 : xs 5 = .bool true := hV 5 (by simp) rfl
          simp only [putM, Act.put, List.setIfInBounds_toArray, List.set_cons_zero, List.set_cons_succ, Nat.zero_add, Nat.reduceAdd, e12]
          clear hV e12
          generalize W = W4 at hMe ⊢
          have HZ := Lib.hid hMe
          clear hMe hz HY
          go_wp2_with fail
          exact bodyPost_ret (v := .tuple #[.agg (vsC (setV (setV (setV V 0 (maxF (V 0) (atF l tt true))) 1 (maxF (V 1) (atF l tt true))) (l + 2) (maxF (V (l + 2)) (atF l tt true)))), .agg (vwC (zeroF)), .bool true]) (result_svb Try.results8 rfl rfl rfl HZ.out.at'.at10 HZ.out.at'.at11) rfl ⟨by rw [hv.out, hm.out, hk.out], HZ.out.at'.low⟩
  by_cases h2 : mo = 2
  ·
    subst h2
    clear h1
    have hk : Hid (writeOk V loc tt 2 = true) := Lib.hid (by unfold writeOk; rw [HN.out]; simp [hlow, hfr])
    have hv : Hid (writeV V loc tt 2 = setV (setV (setV V 0 (maxF (V 0) (atF l tt true))) 1 (maxF (V 1) (atF l tt true))) (l + 2) (maxF (V (l + 2)) (atF l tt true))) := Lib.hid (by unfold writeV; rw [hk.out, HN.out]; rfl)
    have hm : Hid (writeM V loc tt 2 m = maxF (maxF (V (l + 2)) (atF l tt true)) m) := Lib.hid (by unfold writeM; rw [hk.out, HN.out]; rfl)
    subst hloc
    clear hfr
    go_enter Try.func8, Try.ntmps8
    go_upto_region 1 with (fail)
    generalize (((w.alloc (.cells (vsC V) 29)).alloc (.cells (vwC m) 26)).alloc (.cells zero48 29)).alloc (.cells zero8 26) = w0 at HB ⊢
    have d0 : w0.cell? ⟨w.heap.size, 4 + l, none⟩ = some (.int .i64 (V 0 (l + 4))) := by rw [Nat.add_comm 4 l]; exact HB.out.cur (l + 4) (by have := HL.out; omega)
    have i0 : (0 : Int) ≤ (l : Int) := by omega
    have i4 : (l : Int) < 4 := by have := HL.out; omega
    go_upto_region 3 with (go_at_call 27; refine (may2_any _ _ _).mono ?_; rintro e' w' ⟨rfl, h⟩; rw [h]; clear h w')
    clear d0 k0
    go_wp2_with fail
    refine (at_v _ _ _ _).mono ?_
    rintro e' w1 ⟨rfl, hb⟩
    have HB1 := Lib.hid (HB.out.grown hb)
    clear hb HB
    go_upto_region 4 with (refine wpList_store_row rfl 26 _ _ rfl (w1.heap.size) (vwC (atF l tt true)) rfl rfl 26 zero8 (Sits.new _ _ _) vewSize rfl (vwC_one _) ?_)
    have HO := Lib.hid (HB1.out.boxed (atF l tt true))
    generalize (w1.alloc (.cells zero8 26)).setRow w1.heap.size (vwC (atF l tt true)) = w2 at HO ⊢
    generalize w1.heap.size = ga at HO ⊢
    clear HB1
    refine wp_flowG [34, 35, 36, 37, 38, 39, 40, 14] [eqV (.int .i64 (l : Nat)), eqV (.pointer (some ⟨w.heap.size, 16, none⟩)), eqV (.pointer (some ⟨w.heap.size, 16 + l * 8, none⟩)), eqV (.agg (vwC (V (l + 2)))), eqV (.agg (vwC (atF l tt true))), rowV 26 1 (vwC (atF l tt true)), eqV (.agg (vwC (maxF (V (l + 2)) (atF l tt true)))), boxV w2.heap.size 26 zero8] (by kernel_rfl) (by kernel_rfl) (by kernel_rfl) (by kernel_rfl) (by rfl)
      (by simp only [List.mem_cons, List.not_mem_nil, or_false, forall_eq_or_imp, forall_eq]; refine ⟨?_, ?_, ?_, ?_, ?_, ?_, ?_, ?_⟩ <;> (first | exact eqV_mono _ | exact rowV_mono _ _ _ | exact boxV_mono _ _ _)) ?_ ?_
    · intro i o hi ho A W hW hk he
      simp only [List.length_cons, List.length_nil, Nat.zero_add, Nat.reduceAdd] at hi
      obtain rfl | rfl | rfl | rfl | rfl | rfl | rfl | rfl : i = 0 ∨ i = 1 ∨ i = 2 ∨ i = 3 ∨ i = 4 ∨ i = 5 ∨ i = 6 ∨ i = 7 := by omega
      · injection ho with ho; subst ho
        refine .inl ⟨wanted_free rfl, ?_⟩
        have h1 : A.tmps[1]?.getD undef = .int .i64 (l : Nat) := hk 1 (by rfl)
        go_simp
        exact ⟨rfl, Below.refl _ _⟩
      · injection ho with ho; subst ho
        refine .inl ⟨wanted_free rfl, ?_⟩
        have h5 : A.tmps[5]?.getD undef = .pointer (some ⟨w.heap.size, 0, none⟩) := hk 5 (by rfl)
        go_simp
        exact ⟨rfl, Below.refl _ _⟩
      · injection ho with ho; subst ho
        refine .inl ⟨wanted_free rfl, ?_⟩
        have h35 : A.tmps[35]?.getD undef = .pointer (some ⟨w.heap.size, 16, none⟩) := he 1 (by kernel_rfl)
        have h34 : A.tmps[34]?.getD undef = .int .i64 (l : Nat) := he 0 (by kernel_rfl)
        go_simp
        exact ⟨rfl, Below.refl _ _⟩
      · injection ho with ho; subst ho
        refine .inl ⟨wanted_free rfl, ?_⟩
        have h36 : A.tmps[36]?.getD undef = .pointer (some ⟨w.heap.size, 16 + l * 8, none⟩) := he 2 (by kernel_rfl)
        exact y_load (cs := vwC (V (l + 2))) rfl h36 (vs_range (V := V) ((HO.out.grown hW).at'.at5) ((l + 2)) _ (by have := HL.out; omega) (by omega)) Try.underlying26 rfl vewSize
      · injection ho with ho; subst ho
        refine .inl ⟨wanted_free rfl, ?_⟩
        have h13 : A.tmps[13]?.getD undef = .pointer (some ⟨ga, 0, none⟩) := hk 13 (by rfl)
        exact y_load (cs := vwC (atF l tt true)) rfl h13 (sits_range ((HO.out.grown hW).ba)) Try.underlying26 rfl vewSize
      · injection ho with ho; subst ho
        refine .inl ⟨wanted_free rfl, ?_⟩
        have h38 : A.tmps[38]?.getD undef = .agg (vwC (atF l tt true)) := he 4 (by kernel_rfl)
        exact y_one rfl h38
      · injection ho with ho; subst ho
        refine .inl ⟨wanted_free rfl, ?_⟩
        have h37 : A.tmps[37]?.getD undef = .agg (vwC (V (l + 2))) := he 3 (by kernel_rfl)
        obtain ⟨gr39, h39, hr39⟩ : rowV 26 1 (vwC (atF l tt true)) (A.tmps[39]?.getD undef) W := he 5 (by kernel_rfl)
        go_simp
        refine Calls.mono (join_v (V (l + 2)) (atF l tt true) gr39 _ W hr39) ?_
        rintro e' w' ⟨rfl, hb⟩
        exact ⟨_, rfl, rfl, hb⟩
      · injection ho with ho; subst ho
        refine .inl ⟨wanted_free rfl, ?_⟩
        go_simp
        exact ⟨⟨_, hW.size, Sits.new _ _ _, rfl⟩, (Below.refl _ _).alloc (Nat.le_refl _) _⟩
    · intro xs W hW hV
      obtain ⟨gx14, hB14, hs14, e14⟩ : boxV w2.heap.size 26 zero8 (xs 7) W := hV 7 (by simp)
      have e40 : xs 6 = .agg (vwC (maxF (V (l + 2)) (atF l tt true))) := hV 6 (by simp)
      simp only [List.length_cons, List.length_nil, Nat.zero_add, Nat.reduceAdd, List.drop_succ_cons, List.drop_zero, putL, Act.put, List.setIfInBounds_toArray, List.set_cons_zero, List.set_cons_succ, e14, e40]
      clear hV e14 e40
      refine wpList_store_row rfl 26 _ _ rfl gx14 (vwC (maxF (V (l + 2)) (atF l tt true))) rfl rfl 26 zero8 hs14 vewSize rfl (vwC_one _) ?_
      have HX := Lib.hid ((HO.out.grown hW).two hs14 (Nat.lt_of_lt_of_le HO.out.ba.lt hB14) (maxF (V (l + 2)) (atF l tt true)))
      generalize W.setRow gx14 (vwC (maxF (V (l + 2)) (atF l tt true))) = W1 at HX ⊢
      clear hW hs14 hB14 HO
      go_upto_region 13 with (fail)
      refine wp_flowM [some 56, some 57, some 58, some 59, some 60, some 61, some 62, some 63, some 64, some 65, some 66, some 67, some 68, none, some 69, none, some 70, some 71, none] [13, 15, 18] [2, 0, 0, 0, 0, 0, 0, 0, 1, 1, 0, 2, 0, 0, 1, 0, 3, 2, 0] [eqV (.int .i64 (l : Nat)), eqV (.pointer (some ⟨w.heap.size, 0, none⟩)), eqV (.agg (vwC (V 0))), eqV (.agg (vwC (atF l tt true))), rowB _ 26 1 (vwC (atF l tt true)), eqV (.agg (vwC (maxF (V 0) (atF l tt true)))), eqV (.pointer (some ⟨w.heap.size, 8, none⟩)), eqV (.agg (vwC (V 1))), eqV (.agg (vwC (atF l tt true))), rowB _ 26 1 (vwC (atF l tt true)), eqV (.agg (vwC (maxF (V 1) (atF l tt true)))), eqV (.agg (vwC (maxF (V (l + 2)) (atF l tt true)))), eqV (.pointer (some ⟨w.heap.size, 0, none⟩)), fun _ _ => True, eqV (.pointer (some ⟨w.heap.size, 8, none⟩)), fun _ _ => True, eqV (.pointer (some ⟨w.heap.size, 16, none⟩)), eqV (.pointer (some ⟨w.heap.size, 16 + l * 8, none⟩)), fun _ _ => True] (fun j W => match j with | 0 => WrBx w (V) m (zero48) (zero8) ga (atF l tt true) gx14 (maxF (V (l + 2)) (atF l tt true)) W | 1 => WrBx w (setV V 0 (maxF (V 0) (atF l tt true))) m (zero48) (zero8) ga (atF l tt true) gx14 (maxF (V (l + 2)) (atF l tt true)) W | 2 => WrBx w (setV (setV V 0 (maxF (V 0) (atF l tt true))) 1 (maxF (V 1) (atF l tt true))) m (zero48) (zero8) ga (atF l tt true) gx14 (maxF (V (l + 2)) (atF l tt true)) W | _ => WrBx w (setV (setV (setV V 0 (maxF (V 0) (atF l tt true))) 1 (maxF (V 1) (atF l tt true))) (l + 2) (maxF (V (l + 2)) (atF l tt true))) m (zero48) (zero8) ga (atF l tt true) gx14 (maxF (V (l + 2)) (atF l tt true)) W) (by kernel_rfl) (by kernel_rfl) (by kernel_rfl) (by rfl)
        (by simp only [List.mem_cons, List.not_mem_nil, or_false, forall_eq_or_imp, forall_eq]; refine ⟨?_, ?_, ?_, ?_, ?_, ?_, ?_, ?_, ?_, ?_, ?_, ?_, ?_, ?_, ?_, ?_, ?_, ?_, ?_⟩ <;> (first | exact eqV_monoB _ _ | exact rowB_mono _ _ _ _ | exact true_monoB _))
        (fun j W W' h hb => by rcases j with _ | _ | _ | j <;> first | exact (WrBx.grown h hb)) (HX.out) ?_ ?_ ?_
      · intro i o hi ho hc j A W hj hz hMj hk he
        simp only [List.length_cons, List.length_nil, Nat.zero_add, Nat.reduceAdd] at hi
        obtain rfl | rfl | rfl | rfl | rfl | rfl | rfl | rfl | rfl | rfl | rfl | rfl | rfl | rfl | rfl | rfl | rfl | rfl | rfl : i = 0 ∨ i = 1 ∨ i = 2 ∨ i = 3 ∨ i = 4 ∨ i = 5 ∨ i = 6 ∨ i = 7 ∨ i = 8 ∨ i = 9 ∨ i = 10 ∨ i = 11 ∨ i = 12 ∨ i = 13 ∨ i = 14 ∨ i = 15 ∨ i = 16 ∨ i = 17 ∨ i = 18 := by omega
        · injection ho with ho; subst ho
          refine .inl ⟨wanted_free rfl, ?_⟩
          have h1 : A.tmps[1]?.getD undef = .int .i64 (l : Nat) := hk 1 (by rfl)
          go_simp
          exact ⟨rfl, Below.refl _ _⟩
        · injection ho with ho; subst ho
          refine .inl ⟨wanted_free rfl, ?_⟩
          have h5 : A.tmps[5]?.getD undef = .pointer (some ⟨w.heap.size, 0, none⟩) := hk 5 (by rfl)
          go_simp
          exact ⟨rfl, Below.refl _ _⟩
        · obtain rfl : j = 0 := Nat.le_zero.1 hj
          have hMs : WrBx w (V) m (zero48) (zero8) ga (atF l tt true) gx14 (maxF (V (l + 2)) (atF l tt true)) W := hMj
          injection ho with ho; subst ho
          refine .inl ⟨wanted_free rfl, ?_⟩
          have h57 : A.tmps[57]?.getD undef = .pointer (some ⟨w.heap.size, 0, none⟩) := he 1 (by kernel_rfl) (by rfl)
          exact y_load (cs := vwC (V 0)) rfl h57 (vs_range (V := V) (hMs.at'.at5) (0) _ (by omega) rfl) Try.underlying26 rfl vewSize
        · obtain rfl : j = 0 := Nat.le_zero.1 hj
          have hMs : WrBx w (V) m (zero48) (zero8) ga (atF l tt true) gx14 (maxF (V (l + 2)) (atF l tt true)) W := hMj
          injection ho with ho; subst ho
          refine .inl ⟨wanted_free rfl, ?_⟩
          have h13 : A.tmps[13]?.getD undef = .pointer (some ⟨ga, 0, none⟩) := hk 13 (by rfl)
          exact y_load (cs := vwC (atF l tt true)) rfl h13 (sits_range (hMs.ba)) Try.underlying26 rfl vewSize
        · injection ho with ho; subst ho
          refine .inl ⟨wanted_free rfl, ?_⟩
          have h59 : A.tmps[59]?.getD undef = .agg (vwC (atF l tt true)) := he 3 (by kernel_rfl) (by rfl)
          exact y_oneB hz rfl h59
        · obtain rfl : j = 0 := Nat.le_zero.1 hj
          have hMs : WrBx w (V) m (zero48) (zero8) ga (atF l tt true) gx14 (maxF (V (l + 2)) (atF l tt true)) W := hMj
          injection ho with ho; subst ho
          refine .inl ⟨wanted_free rfl, ?_⟩
          have h58 : A.tmps[58]?.getD undef = .agg (vwC (V 0)) := he 2 (by kernel_rfl) (by rfl)
          obtain ⟨gr60, hg60, h60, hr60⟩ : rowB _ 26 1 (vwC (atF l tt true)) (A.tmps[60]?.getD undef) W := he 4 (by kernel_rfl) (by rfl)
          go_simp
          refine Calls.mono (join_v (V 0) (atF l tt true) gr60 _ W hr60) ?_
          rintro e' w' ⟨rfl, hb⟩
          exact ⟨_, rfl, rfl, hb⟩
        · injection ho with ho; subst ho
          refine .inl ⟨wanted_free rfl, ?_⟩
          have h5 : A.tmps[5]?.getD undef = .pointer (some ⟨w.heap.size, 0, none⟩) := hk 5 (by rfl)
          go_simp
          exact ⟨rfl, Below.refl _ _⟩
        · obtain rfl : j = 0 := Nat.le_zero.1 hj
          have hMs : WrBx w (V) m (zero48) (zero8) ga (atF l tt true) gx14 (maxF (V (l + 2)) (atF l tt true)) W := hMj
          injection ho with ho; subst ho
          refine .inl ⟨wanted_free rfl, ?_⟩
          have h62 : A.tmps[62]?.getD undef = .pointer (some ⟨w.heap.size, 8, none⟩) := he 6 (by kernel_rfl) (by rfl)
          exact y_load (cs := vwC (V 1)) rfl h62 (vs_range (V := V) (hMs.at'.at5) (1) _ (by omega) rfl) Try.underlying26 rfl vewSize
        · have hj2 : j ≤ 1 := hj
          rcases j with _ | _ | j
          · have hMs : WrBx w (V) m (zero48) (zero8) ga (atF l tt true) gx14 (maxF (V (l + 2)) (atF l tt true)) W := hMj
            injection ho with ho; subst ho
            refine .inl ⟨wanted_free rfl, ?_⟩
            have h13 : A.tmps[13]?.getD undef = .pointer (some ⟨ga, 0, none⟩) := hk 13 (by rfl)
            exact y_load (cs := vwC (atF l tt true)) rfl h13 (sits_range (hMs.ba)) Try.underlying26 rfl vewSize
          · have hMs : WrBx w (setV V 0 (maxF (V 0) (atF l tt true))) m (zero48) (zero8) ga (atF l tt true) gx14 (maxF (V (l + 2)) (atF l tt true)) W := hMj
            injection ho with ho; subst ho
            refine .inl ⟨wanted_free rfl, ?_⟩
            have h13 : A.tmps[13]?.getD undef = .pointer (some ⟨ga, 0, none⟩) := hk 13 (by rfl)
            exact y_load (cs := vwC (atF l tt true)) rfl h13 (sits_range (hMs.ba)) Try.underlying26 rfl vewSize
          · omega
        · injection ho with ho; subst ho
          refine .inl ⟨wanted_free rfl, ?_⟩
          have h64 : A.tmps[64]?.getD undef = .agg (vwC (atF l tt true)) := he 8 (by kernel_rfl) (by rfl)
          exact y_oneB hz rfl h64
        · obtain rfl : j = 0 := Nat.le_zero.1 hj
          have hMs : WrBx w (V) m (zero48) (zero8) ga (atF l tt true) gx14 (maxF (V (l + 2)) (atF l tt true)) W := hMj
          injection ho with ho; subst ho
          refine .inl ⟨wanted_free rfl, ?_⟩
          have h63 : A.tmps[63]?.getD undef = .agg (vwC (V 1)) := he 7 (by kernel_rfl) (by rfl)
          obtain ⟨gr65, hg65, h65, hr65⟩ : rowB _ 26 1 (vwC (atF l tt true)) (A.tmps[65]?.getD undef) W := he 9 (by kernel_rfl) (by rfl)
          go_simp
          refine Calls.mono (join_v (V 1) (atF l tt true) gr65 _ W hr65) ?_
          rintro e' w' ⟨rfl, hb⟩
          exact ⟨_, rfl, rfl, hb⟩
        · have hj2 : j ≤ 2 := hj
          rcases j with _ | _ | _ | j
          · have hMs : WrBx w (V) m (zero48) (zero8) ga (atF l tt true) gx14 (maxF (V (l + 2)) (atF l tt true)) W := hMj
            injection ho with ho; subst ho
            refine .inl ⟨wanted_free rfl, ?_⟩
            have h14 : A.tmps[14]?.getD undef = .pointer (some ⟨gx14, 0, none⟩) := hk 14 (by rfl)
            exact y_load (cs := vwC (maxF (V (l + 2)) (atF l tt true))) rfl h14 (sits_range (hMs.bb)) Try.underlying26 rfl vewSize
          · have hMs : WrBx w (setV V 0 (maxF (V 0) (atF l tt true))) m (zero48) (zero8) ga (atF l tt true) gx14 (maxF (V (l + 2)) (atF l tt true)) W := hMj
            injection ho with ho; subst ho
            refine .inl ⟨wanted_free rfl, ?_⟩
            have h14 : A.tmps[14]?.getD undef = .pointer (some ⟨gx14, 0, none⟩) := hk 14 (by rfl)
            exact y_load (cs := vwC (maxF (V (l + 2)) (atF l tt true))) rfl h14 (sits_range (hMs.bb)) Try.underlying26 rfl vewSize
          · have hMs : WrBx w (setV (setV V 0 (maxF (V 0) (atF l tt true))) 1 (maxF (V 1) (atF l tt true))) m (zero48) (zero8) ga (atF l tt true) gx14 (maxF (V (l + 2)) (atF l tt true)) W := hMj
            injection ho with ho; subst ho
            refine .inl ⟨wanted_free rfl, ?_⟩
            have h14 : A.tmps[14]?.getD undef = .pointer (some ⟨gx14, 0, none⟩) := hk 14 (by rfl)
            exact y_load (cs := vwC (maxF (V (l + 2)) (atF l tt true))) rfl h14 (sits_range (hMs.bb)) Try.underlying26 rfl vewSize
          · omega
        · injection ho with ho; subst ho
          refine .inl ⟨wanted_free rfl, ?_⟩
          have h5 : A.tmps[5]?.getD undef = .pointer (some ⟨w.heap.size, 0, none⟩) := hk 5 (by rfl)
          go_simp
          exact ⟨rfl, Below.refl _ _⟩
        · exact absurd hc (by decide)
        · injection ho with ho; subst ho
          refine .inl ⟨wanted_free rfl, ?_⟩
          have h5 : A.tmps[5]?.getD undef = .pointer (some ⟨w.heap.size, 0, none⟩) := hk 5 (by rfl)
          go_simp
          exact ⟨rfl, Below.refl _ _⟩
        · exact absurd hc (by decide)
        · injection ho with ho; subst ho
          refine .inl ⟨wanted_free rfl, ?_⟩
          have h5 : A.tmps[5]?.getD undef = .pointer (some ⟨w.heap.size, 0, none⟩) := hk 5 (by rfl)
          go_simp
          exact ⟨rfl, Below.refl _ _⟩
        · injection ho with ho; subst ho
          refine .inl ⟨wanted_free rfl, ?_⟩
          have h70 : A.tmps[70]?.getD undef = .pointer (some ⟨w.heap.size, 16, none⟩) := he 16 (by kernel_rfl) (by rfl)
          have h56 : A.tmps[56]?.getD undef = .int .i64 (l : Nat) := he 0 (by kernel_rfl) (by rfl)
          go_simp
          exact ⟨rfl, Below.refl _ _⟩
        · exact absurd hc (by decide)
      · intro j i o hji ho A W hz hMj hk he
        rcases j with _ | _ | _ | j
        · obtain rfl : 13 = i := Option.some.inj hji
          injection ho with ho; subst ho
          refine .inl ⟨wanted_free rfl, ?_⟩
          have hMs : WrBx w (V) m (zero48) (zero8) ga (atF l tt true) gx14 (maxF (V (l + 2)) (atF l tt true)) W := hMj
          have h68 : A.tmps[68]?.getD undef = .pointer (some ⟨w.heap.size, 0, none⟩) := he 12 (by kernel_rfl) (by rfl)
          have h61 : A.tmps[61]?.getD undef = .agg (vwC (maxF (V 0) (atF l tt true))) := he 5 (by kernel_rfl) (by rfl)
          exact y_storeK rfl h68 h61 hMs.at'.at5 (k := 0) (by omega) (by omega) vewSize (by have := HX.out.at'.grow; omega) (fun _ _ => trivial) (hMs.setK (0) _ _ (by omega))
        · obtain rfl : 15 = i := Option.some.inj hji
          injection ho with ho; subst ho
          refine .inl ⟨wanted_free rfl, ?_⟩
          have hMs : WrBx w (setV V 0 (maxF (V 0) (atF l tt true))) m (zero48) (zero8) ga (atF l tt true) gx14 (maxF (V (l + 2)) (atF l tt true)) W := hMj
          have h69 : A.tmps[69]?.getD undef = .pointer (some ⟨w.heap.size, 8, none⟩) := he 14 (by kernel_rfl) (by rfl)
          have h66 : A.tmps[66]?.getD undef = .agg (vwC (maxF (V 1) (atF l tt true))) := he 10 (by kernel_rfl) (by rfl)
          exact y_storeK rfl h69 h66 hMs.at'.at5 (k := 1) (by omega) (by omega) vewSize (by have := HX.out.at'.grow; omega) (fun _ _ => trivial) (hMs.setK (1) _ _ (by omega))
        · obtain rfl : 18 = i := Option.some.inj hji
          injection ho with ho; subst ho
          refine .inl ⟨wanted_free rfl, ?_⟩
          have hMs : WrBx w (setV (setV V 0 (maxF (V 0) (atF l tt true))) 1 (maxF (V 1) (atF l tt true))) m (zero48) (zero8) ga (atF l tt true) gx14 (maxF (V (l + 2)) (atF l tt true)) W := hMj
          have h71 : A.tmps[71]?.getD undef = .pointer (some ⟨w.heap.size, 16 + l * 8, none⟩) := he 17 (by kernel_rfl) (by rfl)
          have h67 : A.tmps[67]?.getD undef = .agg (vwC (maxF (V (l + 2)) (atF l tt true))) := he 11 (by kernel_rfl) (by rfl)
          exact y_storeK rfl h71 h67 hMs.at'.at5 (k := l + 2) (by have := HL.out; omega) (by omega) vewSize (by have := HX.out.at'.grow; omega) (fun _ _ => trivial) (hMs.setK (l + 2) _ _ (by omega))
        · simp at hji
      · intro xs W hz hMe hV
        have hMe : WrBx w (setV (setV (setV V 0 (maxF (V 0) (atF l tt true))) 1 (maxF (V 1) (atF l tt true))) (l + 2) (maxF (V (l + 2)) (atF l tt true))) m (zero48) (zero8) ga (atF l tt true) gx14 (maxF (V (l + 2)) (atF l tt true)) W := hMe
        simp only [putM, Act.put, List.setIfInBounds_toArray, List.set_cons_zero, List.set_cons_succ, Nat.zero_add, Nat.reduceAdd]
        clear hV
        generalize W = W3 at hMe ⊢
        have HY := Lib.hid hMe
        clear hMe hz HX
        go_upto_region 14 with (fail)
        refine wp_flowM [some 72, some 73, some 74, none, none, some 12] [3, 4] [0, 1, 0, 0, 0, 2] [eqV (.agg (vsC (setV (setV (setV V 0 (maxF (V 0) (atF l tt true))) 1 (maxF (V 1) (atF l tt true))) (l + 2) (maxF (V (l + 2)) (atF l tt true))))), eqV (.func (.func 28) #[] #[.pointer (some ⟨gx14, 0, none⟩), .pointer (some ⟨w.heap.size + 1, 0, none⟩)]), eqV (.agg (vwC (maxF (maxF (V (l + 2)) (atF l tt true)) m))), fun _ _ => True, fun _ _ => True, eqV (.bool true)] (fun j W => match j with | 0 => WrBx w (setV (setV (setV V 0 (maxF (V 0) (atF l tt true))) 1 (maxF (V 1) (atF l tt true))) (l + 2) (maxF (V (l + 2)) (atF l tt true))) m (zero48) (zero8) ga (atF l tt true) gx14 (maxF (V (l + 2)) (atF l tt true)) W | 1 => WrBx w (setV (setV (setV V 0 (maxF (V 0) (atF l tt true))) 1 (maxF (V 1) (atF l tt true))) (l + 2) (maxF (V (l + 2)) (atF l tt true))) m (vsC (setV (setV (setV V 0 (maxF (V 0) (atF l tt true))) 1 (maxF (V 1) (atF l tt true))) (l + 2) (maxF (V (l + 2)) (atF l tt true)))) (zero8) ga (atF l tt true) gx14 (maxF (V (l + 2)) (atF l tt true)) W | _ => WrBx w (setV (setV (setV V 0 (maxF (V 0) (atF l tt true))) 1 (maxF (V 1) (atF l tt true))) (l + 2) (maxF (V (l + 2)) (atF l tt true))) m (vsC (setV (setV (setV V 0 (maxF (V 0) (atF l tt true))) 1 (maxF (V 1) (atF l tt true))) (l + 2) (maxF (V (l + 2)) (atF l tt true)))) (vwC (maxF (maxF (V (l + 2)) (atF l tt true)) m)) ga (atF l tt true) gx14 (maxF (V (l + 2)) (atF l tt true)) W) (by kernel_rfl) (by kernel_rfl) (by kernel_rfl) (by rfl)
          (by simp only [List.mem_cons, List.not_mem_nil, or_false, forall_eq_or_imp, forall_eq]; refine ⟨?_, ?_, ?_, ?_, ?_, ?_⟩ <;> (first | exact eqV_monoB _ _ | exact rowB_mono _ _ _ _ | exact true_monoB _))
          (fun j W W' h hb => by rcases j with _ | _ | j <;> first | exact (WrBx.grown h hb)) (HY.out) ?_ ?_ ?_
        · intro i o hi ho hc j A W hj hz hMj hk he
          simp only [List.length_cons, List.length_nil, Nat.zero_add, Nat.reduceAdd] at hi
          obtain rfl | rfl | rfl | rfl | rfl | rfl : i = 0 ∨ i = 1 ∨ i = 2 ∨ i = 3 ∨ i = 4 ∨ i = 5 := by omega
          · obtain rfl : j = 0 := Nat.le_zero.1 hj
            have hMs : WrBx w (setV (setV (setV V 0 (maxF (V 0) (atF l tt true))) 1 (maxF (V 1) (atF l tt true))) (l + 2) (maxF (V (l + 2)) (atF l tt true))) m (zero48) (zero8) ga (atF l tt true) gx14 (maxF (V (l + 2)) (atF l tt true)) W := hMj
            injection ho with ho; subst ho
            refine .inl ⟨wanted_free rfl, ?_⟩
            have h5 : A.tmps[5]?.getD undef = .pointer (some ⟨w.heap.size, 0, none⟩) := hk 5 (by rfl)
            exact y_load (cs := vsC (setV (setV (setV V 0 (maxF (V 0) (atF l tt true))) 1 (maxF (V 1) (atF l tt true))) (l + 2) (maxF (V (l + 2)) (atF l tt true)))) rfl h5 (sits_range (hMs.at'.at5)) Try.underlying29 rfl vsSize
          · injection ho with ho; subst ho
            refine .inl ⟨wanted_free rfl, ?_⟩
            have h15 : A.tmps[15]?.getD undef = .func (.func 28) #[] #[.pointer (some ⟨gx14, 0, none⟩), .pointer (some ⟨w.heap.size + 1, 0, none⟩)] := hk 15 (by rfl)
            go_simp
            exact ⟨rfl, Below.refl _ _⟩
          · obtain rfl : j = 0 := Nat.le_zero.1 hj
            have hMs : WrBx w (setV (setV (setV V 0 (maxF (V 0) (atF l tt true))) 1 (maxF (V 1) (atF l tt true))) (l + 2) (maxF (V (l + 2)) (atF l tt true))) m (zero48) (zero8) ga (atF l tt true) gx14 (maxF (V (l + 2)) (atF l tt true)) W := hMj
            injection ho with ho; subst ho
            refine .inl ⟨wanted_free rfl, ?_⟩
            have h73 : A.tmps[73]?.getD undef = .func (.func 28) #[] #[.pointer (some ⟨gx14, 0, none⟩), .pointer (some ⟨w.heap.size + 1, 0, none⟩)] := he 1 (by kernel_rfl) (by rfl)
            go_simp
            refine Calls.mono (tell1_any (maxF (V (l + 2)) (atF l tt true)) m gx14 (w.heap.size + 1) W hMs.bb hMs.at'.at9) ?_
            rintro e' w' ⟨rfl, hb⟩
            exact ⟨_, rfl, rfl, hb⟩
          · exact absurd hc (by decide)
          · exact absurd hc (by decide)
          · injection ho with ho; subst ho
            refine .inl ⟨wanted_free rfl, ?_⟩
            go_simp
            exact ⟨rfl, Below.refl _ _⟩
        · intro j i o hji ho A W hz hMj hk he
          rcases j with _ | _ | j
          · obtain rfl : 3 = i := Option.some.inj hji
            injection ho with ho; subst ho
            refine .inl ⟨wanted_free rfl, ?_⟩
            have hMs : WrBx w (setV (setV (setV V 0 (maxF (V 0) (atF l tt true))) 1 (maxF (V 1) (atF l tt true))) (l + 2) (maxF (V (l + 2)) (atF l tt true))) m (zero48) (zero8) ga (atF l tt true) gx14 (maxF (V (l + 2)) (atF l tt true)) W := hMj
            have h10 : A.tmps[10]?.getD undef = .pointer (some ⟨w.heap.size + 1 + 1, 0, none⟩) := hk 10 (by rfl)
            have h72 : A.tmps[72]?.getD undef = .agg (vsC (setV (setV (setV V 0 (maxF (V 0) (atF l tt true))) 1 (maxF (V 1) (atF l tt true))) (l + 2) (maxF (V (l + 2)) (atF l tt true)))) := he 0 (by kernel_rfl) (by rfl)
            exact y_store rfl h10 h72 hMs.at'.at10 (by rw [vsC_size]; exact vsSize) (zero48_size.trans (vsC_size _).symm) (vsC_one _) (by have := HY.out.at'.grow; omega) (fun _ _ => trivial) (hMs.out _)
          · obtain rfl : 4 = i := Option.some.inj hji
            injection ho with ho; subst ho
            refine .inl ⟨wanted_free rfl, ?_⟩
            have hMs : WrBx w (setV (setV (setV V 0 (maxF (V 0) (atF l tt true))) 1 (maxF (V 1) (atF l tt true))) (l + 2) (maxF (V (l + 2)) (atF l tt true))) m (vsC (setV (setV (setV V 0 (maxF (V 0) (atF l tt true))) 1 (maxF (V 1) (atF l tt true))) (l + 2) (maxF (V (l + 2)) (atF l tt true)))) (zero8) ga (atF l tt true) gx14 (maxF (V (l + 2)) (atF l tt true)) W := hMj
            have h11 : A.tmps[11]?.getD undef = .pointer (some ⟨w.heap.size + 1 + 1 + 1, 0, none⟩) := hk 11 (by rfl)
            have h74 : A.tmps[74]?.getD undef = .agg (vwC (maxF (maxF (V (l + 2)) (atF l tt true)) m)) := he 2 (by kernel_rfl) (by rfl)
            exact y_store rfl h11 h74 hMs.at'.at11 vewSize rfl (vwC_one _) (by have := HY.out.at'.grow; omega) (fun _ _ => trivial) (hMs.out2 _)
          · simp at hji
        · intro xs W hz hMe hV
          have hMe : WrBx w (setV (setV (setV V 0 (maxF (V 0) (atF l tt true))) 1 (maxF (V 1) (atF l tt true))) (l + 2) (maxF (V (l + 2)) (atF l tt true))) m (vsC (setV (setV (setV V 0 (maxF (V 0) (atF l tt true))) 1 (maxF (V 1) (atF l tt true))) (l + 2) (maxF (V (l + 2)) (atF l tt true)))) (vwC (maxF (maxF (V (l + 2)) (atF l tt true)) m)) ga (atF l tt true) gx14 (maxF (V (l + 2)) (atF l tt true)) W := hMe
          have e12 : xs 5 = .bool true := hV 5 (by simp) rfl
          simp only [putM, Act.put, List.setIfInBounds_toArray, List.set_cons_zero, List.set_cons_succ, Nat.zero_add, Nat.reduceAdd, e12]
          clear hV e12
          generalize W = W4 at hMe ⊢
          have HZ := Lib.hid hMe
          clear hMe hz HY
          go_wp2_with fail
          exact bodyPost_ret (v := .tuple #[.agg (vsC (setV (setV (setV V 0 (maxF (V 0) (atF l tt true))) 1 (maxF (V 1) (atF l tt true))) (l + 2) (maxF (V (l + 2)) (atF l tt true)))), .agg (vwC (maxF (maxF (V (l + 2)) (atF l tt true)) m)), .bool true]) (result_svb Try.results8 rfl rfl rfl HZ.out.at'.at10 HZ.out.at'.at11) rfl ⟨by rw [hv.out, hm.out, hk.out], HZ.out.at'.low⟩
  by_cases h4 : mo = 4
  ·
    subst h4
    clear h1 h2
    have hk : Hid (writeOk V loc tt 4 = true) := Lib.hid (by unfold writeOk; rw [HN.out]; simp [hlow, hfr])
    have hv : Hid (writeV V loc tt 4 = setV (setV (setV V 0 (maxF (V 0) (atF l tt true))) 1 (maxF (V 1) (atF l tt true))) (l + 2) (maxF (maxF (V (l + 2)) (atF l tt true)) (V 0))) := Lib.hid (by unfold writeV; rw [hk.out, HN.out]; rfl)
    have hm : Hid (writeM V loc tt 4 m = maxF (maxF (maxF (V (l + 2)) (atF l tt true)) (V 0)) m) := Lib.hid (by unfold writeM; rw [hk.out, HN.out]; rfl)
    subst hloc
    clear hfr
    go_enter Try.func8, Try.ntmps8
    go_upto_region 1 with (fail)
    generalize (((w.alloc (.cells (vsC V) 29)).alloc (.cells (vwC m) 26)).alloc (.cells zero48 29)).alloc (.cells zero8 26) = w0 at HB ⊢
    have d0 : w0.cell? ⟨w.heap.size, 4 + l, none⟩ = some (.int .i64 (V 0 (l + 4))) := by rw [Nat.add_comm 4 l]; exact HB.out.cur (l + 4) (by have := HL.out; omega)
    have i0 : (0 : Int) ≤ (l : Int) := by omega
    have i4 : (l : Int) < 4 := by have := HL.out; omega
    go_upto_region 3 with (go_at_call 27; refine (may2_any _ _ _).mono ?_; rintro e' w' ⟨rfl, h⟩; rw [h]; clear h w')
    clear d0 k0
    go_wp2_with fail
    refine (at_v _ _ _ _).mono ?_
    rintro e' w1 ⟨rfl, hb⟩
    have HB1 := Lib.hid (HB.out.grown hb)
    clear hb HB
    go_upto_region 4 with (refine wpList_store_row rfl 26 _ _ rfl (w1.heap.size) (vwC (atF l tt true)) rfl rfl 26 zero8 (Sits.new _ _ _) vewSize rfl (vwC_one _) ?_)
    have HO := Lib.hid (HB1.out.boxed (atF l tt true))
    generalize (w1.alloc (.cells zero8 26)).setRow w1.heap.size (vwC (atF l tt true)) = w2 at HO ⊢
    generalize w1.heap.size = ga at HO ⊢
    clear HB1
    refine wp_flowG [34, 35, 36, 37, 38, 39, 40, 14] [eqV (.int .i64 (l : Nat)), eqV (.pointer (some ⟨w.heap.size, 16, none⟩)), eqV (.pointer (some ⟨w.heap.size, 16 + l * 8, none⟩)), eqV (.agg (vwC (V (l + 2)))), eqV (.agg (vwC (atF l tt true))), rowV 26 1 (vwC (atF l tt true)), eqV (.agg (vwC (maxF (V (l + 2)) (atF l tt true)))), boxV w2.heap.size 26 zero8] (by kernel_rfl) (by kernel_rfl) (by kernel_rfl) (by kernel_rfl) (by rfl)
      (by simp only [List.mem_cons, List.not_mem_nil, or_false, forall_eq_or_imp, forall_eq]; refine ⟨?_, ?_, ?_, ?_, ?_, ?_, ?_, ?_⟩ <;> (first | exact eqV_mono _ | exact rowV_mono _ _ _ | exact boxV_mono _ _ _)) ?_ ?_
    · intro i o hi ho A W hW hk he
      simp only [List.length_cons, List.length_nil, Nat.zero_add, Nat.reduceAdd] at hi
      obtain rfl | rfl | rfl | rfl | rfl | rfl | rfl | rfl : i = 0 ∨ i = 1 ∨ i = 2 ∨ i = 3 ∨ i = 4 ∨ i = 5 ∨ i = 6 ∨ i = 7 := by omega
      · injection ho with ho; subst ho
        refine .inl ⟨wanted_free rfl, ?_⟩
        have h1 : A.tmps[1]?.getD undef = .int .i64 (l : Nat) := hk 1 (by rfl)
        go_simp
        exact ⟨rfl, Below.refl _ _⟩
      · injection ho with ho; subst ho
        refine .inl ⟨wanted_free rfl, ?_⟩
        have h5 : A.tmps[5]?.getD undef = .pointer (some ⟨w.heap.size, 0, none⟩) := hk 5 (by rfl)
        go_simp
        exact ⟨rfl, Below.refl _ _⟩
      · injection ho with ho; subst ho
        refine .inl ⟨wanted_free rfl, ?_⟩
        have h35 : A.tmps[35]?.getD undef = .pointer (some ⟨w.heap.size, 16, none⟩) := he 1 (by kernel_rfl)
        have h34 : A.tmps[34]?.getD undef = .int .i64 (l : Nat) := he 0 (by kernel_rfl)
        go_simp
        exact ⟨rfl, Below.refl _ _⟩
      · injection ho with ho; subst ho
        refine .inl ⟨wanted_free rfl, ?_⟩
        have h36 : A.tmps[36]?.getD undef = .pointer (some ⟨w.heap.size, 16 + l * 8, none⟩) := he 2 (by kernel_rfl)
        exact y_load (cs := vwC (V (l + 2))) rfl h36 (vs_range (V := V) ((HO.out.grown hW).at'.at5) ((l + 2)) _ (by have := HL.out; omega) (by omega)) Try.underlying26 rfl vewSize
      · injection ho with ho; subst ho
        refine .inl ⟨wanted_free rfl, ?_⟩
        have h13 : A.tmps[13]?.getD undef = .pointer (some ⟨ga, 0, none⟩) := hk 13 (by rfl)
        exact y_load (cs := vwC (atF l tt true)) rfl h13 (sits_range ((HO.out.grown hW).ba)) Try.underlying26 rfl vewSize
      · injection ho with ho; subst ho
        refine .inl ⟨wanted_free rfl, ?_⟩
        have h38 : A.tmps[38]?.getD undef = .agg (vwC (atF l tt true)) := he 4 (by kernel_rfl)
        exact y_one rfl h38
      · injection ho with ho; subst ho
        refine .inl ⟨wanted_free rfl, ?_⟩
        have h37 : A.tmps[37]?.getD undef = .agg (vwC (V (l + 2))) := he 3 (by kernel_rfl)
        obtain ⟨gr39, h39, hr39⟩ : rowV 26 1 (vwC (atF l tt true)) (A.tmps[39]?.getD undef) W := he 5 (by kernel_rfl)
        go_simp
        refine Calls.mono (join_v (V (l + 2)) (atF l tt true) gr39 _ W hr39) ?_
        rintro e' w' ⟨rfl, hb⟩
        exact ⟨_, rfl, rfl, hb⟩
      · injection ho with ho; subst ho
        refine .inl ⟨wanted_free rfl, ?_⟩
        go_simp
        exact ⟨⟨_, hW.size, Sits.new _ _ _, rfl⟩, (Below.refl _ _).alloc (Nat.le_refl _) _⟩
    · intro xs W hW hV
      obtain ⟨gx14, hB14, hs14, e14⟩ : boxV w2.heap.size 26 zero8 (xs 7) W := hV 7 (by simp)
      have e40 : xs 6 = .agg (vwC (maxF (V (l + 2)) (atF l tt true))) := hV 6 (by simp)
      simp only [List.length_cons, List.length_nil, Nat.zero_add, Nat.reduceAdd, List.drop_succ_cons, List.drop_zero, putL, Act.put, List.setIfInBounds_toArray, List.set_cons_zero, List.set_cons_succ, e14, e40]
      clear hV e14 e40
      refine wpList_store_row rfl 26 _ _ rfl gx14 (vwC (maxF (V (l + 2)) (atF l tt true))) rfl rfl 26 zero8 hs14 vewSize rfl (vwC_one _) ?_
      have HX := Lib.hid ((HO.out.grown hW).two hs14 (Nat.lt_of_lt_of_le HO.out.ba.lt hB14) (maxF (V (l + 2)) (atF l tt true)))
      generalize W.setRow gx14 (vwC (maxF (V (l + 2)) (atF l tt true))) = W1 at HX ⊢
      clear hW hs14 hB14 HO
      go_upto_region 12 with (fail)
      refine wp_flowQ [51, 52, 53, 54, 55] [eqV (.agg (vwC (maxF (V (l + 2)) (atF l tt true)))), eqV (.pointer (some ⟨w.heap.size, 0, none⟩)), eqV (.agg (vwC (V 0))), rowV 26 1 (vwC (V 0)), eqV (.agg (vwC (maxF (maxF (V (l + 2)) (atF l tt true)) (V 0))))] (by kernel_rfl) (by kernel_rfl) (by kernel_rfl) (by kernel_rfl) (by rfl)
        (by simp only [List.mem_cons, List.not_mem_nil, or_false, forall_eq_or_imp, forall_eq]; refine ⟨?_, ?_, ?_, ?_, ?_⟩ <;> (first | exact eqV_mono _ | exact rowV_mono _ _ _)) ?_ ?_
      · intro i o hi ho A W hW hk he
        simp only [List.length_cons, List.length_nil, Nat.zero_add, Nat.reduceAdd] at hi
        obtain rfl | rfl | rfl | rfl | rfl : i = 0 ∨ i = 1 ∨ i = 2 ∨ i = 3 ∨ i = 4 := by omega
        · injection ho with ho; subst ho
          refine .inl ⟨wanted_free rfl, ?_⟩
          have h14 : A.tmps[14]?.getD undef = .pointer (some ⟨gx14, 0, none⟩) := hk 14 (by rfl)
          exact y_load (cs := vwC (maxF (V (l + 2)) (atF l tt true))) rfl h14 (sits_range ((HX.out.grown hW).bb)) Try.underlying26 rfl vewSize
        · injection ho with ho; subst ho
          refine .inl ⟨wanted_free rfl, ?_⟩
          have h5 : A.tmps[5]?.getD undef = .pointer (some ⟨w.heap.size, 0, none⟩) := hk 5 (by rfl)
          go_simp
          exact ⟨rfl, Below.refl _ _⟩
        · injection ho with ho; subst ho
          refine .inl ⟨wanted_free rfl, ?_⟩
          have h52 : A.tmps[52]?.getD undef = .pointer (some ⟨w.heap.size, 0, none⟩) := he 1 (by kernel_rfl)
          exact y_load (cs := vwC (V 0)) rfl h52 (vs_range (V := V) ((HX.out.grown hW).at'.at5) (0) _ (by omega) rfl) Try.underlying26 rfl vewSize
        · injection ho with ho; subst ho
          refine .inl ⟨wanted_free rfl, ?_⟩
          have h53 : A.tmps[53]?.getD undef = .agg (vwC (V 0)) := he 2 (by kernel_rfl)
          exact y_one rfl h53
        · injection ho with ho; subst ho
          refine .inl ⟨wanted_free rfl, ?_⟩
          have h51 : A.tmps[51]?.getD undef = .agg (vwC (maxF (V (l + 2)) (atF l tt true))) := he 0 (by kernel_rfl)
          obtain ⟨gr54, h54, hr54⟩ : rowV 26 1 (vwC (V 0)) (A.tmps[54]?.getD undef) W := he 3 (by kernel_rfl)
          go_simp
          refine Calls.mono (join_v (maxF (V (l + 2)) (atF l tt true)) (V 0) gr54 _ W hr54) ?_
          rintro e' w' ⟨rfl, hb⟩
          exact ⟨_, rfl, rfl, hb⟩
      · intro xs W hW hV
        have e55 : xs 4 = .agg (vwC (maxF (maxF (V (l + 2)) (atF l tt true)) (V 0))) := hV 4 (by simp)
        simp only [List.length_cons, List.length_nil, Nat.zero_add, Nat.reduceAdd, List.drop_succ_cons, List.drop_zero, putL, Act.put, List.setIfInBounds_toArray, List.set_cons_zero, List.set_cons_succ, e55]
        clear hV e55
        have HX2 := Lib.hid ((HX.out.grown hW).say (maxF (maxF (V (l + 2)) (atF l tt true)) (V 0)))
        refine wpList_store_row rfl 26 _ _ rfl gx14 (vwC (maxF (maxF (V (l + 2)) (atF l tt true)) (V 0))) rfl rfl 26 _ (HX.out.grown hW).bb vewSize rfl (vwC_one _) ?_
        generalize W.setRow gx14 (vwC (maxF (maxF (V (l + 2)) (atF l tt true)) (V 0))) = W2 at HX2 ⊢
        clear hW HX
        go_upto_region 13 with (fail)
        refine wp_flowM [some 56, some 57, some 58, some 59, some 60, some 61, some 62, some 63, some 64, some 65, some 66, some 67, some 68, none, some 69, none, some 70, some 71, none] [13, 15, 18] [2, 0, 0, 0, 0, 0, 0, 0, 1, 1, 0, 2, 0, 0, 1, 0, 3, 2, 0] [eqV (.int .i64 (l : Nat)), eqV (.pointer (some ⟨w.heap.size, 0, none⟩)), eqV (.agg (vwC (V 0))), eqV (.agg (vwC (atF l tt true))), rowB _ 26 1 (vwC (atF l tt true)), eqV (.agg (vwC (maxF (V 0) (atF l tt true)))), eqV (.pointer (some ⟨w.heap.size, 8, none⟩)), eqV (.agg (vwC (V 1))), eqV (.agg (vwC (atF l tt true))), rowB _ 26 1 (vwC (atF l tt true)), eqV (.agg (vwC (maxF (V 1) (atF l tt true)))), eqV (.agg (vwC (maxF (maxF (V (l + 2)) (atF l tt true)) (V 0)))), eqV (.pointer (some ⟨w.heap.size, 0, none⟩)), fun _ _ => True, eqV (.pointer (some ⟨w.heap.size, 8, none⟩)), fun _ _ => True, eqV (.pointer (some ⟨w.heap.size, 16, none⟩)), eqV (.pointer (some ⟨w.heap.size, 16 + l * 8, none⟩)), fun _ _ => True] (fun j W => match j with | 0 => WrBx w (V) m (zero48) (zero8) ga (atF l tt true) gx14 (maxF (maxF (V (l + 2)) (atF l tt true)) (V 0)) W | 1 => WrBx w (setV V 0 (maxF (V 0) (atF l tt true))) m (zero48) (zero8) ga (atF l tt true) gx14 (maxF (maxF (V (l + 2)) (atF l tt true)) (V 0)) W | 2 => WrBx w (setV (setV V 0 (maxF (V 0) (atF l tt true))) 1 (maxF (V 1) (atF l tt true))) m (zero48) (zero8) ga (atF l tt true) gx14 (maxF (maxF (V (l + 2)) (atF l tt true)) (V 0)) W | _ => WrBx w (setV (setV (setV V 0 (maxF (V 0) (atF l tt true))) 1 (maxF (V 1) (atF l tt true))) (l + 2) (maxF (maxF (V (l + 2)) (atF l tt true)) (V 0))) m (zero48) (zero8) ga (atF l tt true) gx14 (maxF (maxF (V (l + 2)) (atF l tt true)) (V 0)) W) (by kernel_rfl) (by kernel_rfl) (by kernel_rfl) (by rfl)
          (by simp only [List.mem_cons, List.not_mem_nil, or_false, forall_eq_or_imp, forall_eq]; refine ⟨?_, ?_, ?_, ?_, ?_, ?_, ?_, ?_, ?_, ?_, ?_, ?_, ?_, ?_, ?_, ?_, ?_, ?_, ?_⟩ <;> (first | exact eqV_monoB _ _ | exact rowB_mono _ _ _ _ | exact true_monoB _))
          (fun j W W' h hb => by rcases j with _ | _ | _ | j <;> first | exact (WrBx.grown h hb)) (HX2.out) ?_ ?_ ?_
        · intro i o hi ho hc j A W hj hz hMj hk he
          simp only [List.length_cons, List.length_nil, Nat.zero_add, Nat.reduceAdd] at hi
          obtain rfl | rfl | rfl | rfl | rfl | rfl | rfl | rfl | rfl | rfl | rfl | rfl | rfl | rfl | rfl | rfl | rfl | rfl | rfl : i = 0 ∨ i = 1 ∨ i = 2 ∨ i = 3 ∨ i = 4 ∨ i = 5 ∨ i = 6 ∨ i = 7 ∨ i = 8 ∨ i = 9 ∨ i = 10 ∨ i = 11 ∨ i = 12 ∨ i = 13 ∨ i = 14 ∨ i = 15 ∨ i = 16 ∨ i = 17 ∨ i = 18 := by omega
          · injection ho with ho; subst ho
            refine .inl ⟨wanted_free rfl, ?_⟩
            have h1 : A.tmps[1]?.getD undef = .int .i64 (l : Nat) := hk 1 (by rfl)
            go_simp
            exact ⟨rfl, Below.refl _ _⟩
          · injection ho with ho; subst ho
            refine .inl ⟨wanted_free rfl, ?_⟩
            have h5 : A.tmps[5]?.getD undef = .pointer (some ⟨w.heap.size, 0, none⟩) := hk 5 (by rfl)
            go_simp
            exact ⟨rfl, Below.refl _ _⟩
          · obtain rfl : j = 0 := Nat.le_zero.1 hj
            have hMs : WrBx w (V) m (zero48) (zero8) ga (atF l tt true) gx14 (maxF (maxF (V (l + 2)) (atF l tt true)) (V 0)) W := hMj
            injection ho with ho; subst ho
            refine .inl ⟨wanted_free rfl, ?_⟩
            have h57 : A.tmps[57]?.getD undef = .pointer (some ⟨w.heap.size, 0, none⟩) := he 1 (by kernel_rfl) (by rfl)
            exact y_load (cs := vwC (V 0)) rfl h57 (vs_range (V := V) (hMs.at'.at5) (0) _ (by omega) rfl) Try.underlying26 rfl vewSize
          · obtain rfl : j = 0 := Nat.le_zero.1 hj
            have hMs : WrBx w (V) m (zero48) (zero8) ga (atF l tt true) gx14 (maxF (maxF (V (l + 2)) (atF l tt true)) (V 0)) W := hMj
            injection ho with ho; subst ho
            refine .inl ⟨wanted_free rfl, ?_⟩
            have h13 : A.tmps[13]?.getD undef = .pointer (some ⟨ga, 0, none⟩) := hk 13 (by rfl)
            exact y_load (cs := vwC (atF l tt true)) rfl h13 (sits_range (hMs.ba)) Try.underlying26 rfl vewSize
          · injection ho with ho; subst ho
            refine .inl ⟨wanted_free rfl, ?_⟩
            have h59 : A.tmps[59]?.getD undef = .agg (vwC (atF l tt true)) := he 3 (by kernel_rfl) (by rfl)
            exact y_oneB hz rfl h59
          · obtain rfl : j = 0 := Nat.le_zero.1 hj
            have hMs : WrBx w (V) m (zero48) (zero8) ga (atF l tt true) gx14 (maxF (maxF (V (l + 2)) (atF l tt true)) (V 0)) W := hMj
            injection ho with ho; subst ho
            refine .inl ⟨wanted_free rfl, ?_⟩
            have h58 : A.tmps[58]?.getD undef = .agg (vwC (V 0)) := he 2 (by kernel_rfl) (by rfl)
            obtain ⟨gr60, hg60, h60, hr60⟩ : rowB _ 26 1 (vwC (atF l tt true)) (A.tmps[60]?.getD undef) W := he 4 (by kernel_rfl) (by rfl)
            go_simp
            refine Calls.mono (join_v (V 0) (atF l tt true) gr60 _ W hr60) ?_
            rintro e' w' ⟨rfl, hb⟩
            exact ⟨_, rfl, rfl, hb⟩
          · injection ho with ho; subst ho
            refine .inl ⟨wanted_free rfl, ?_⟩
            have h5 : A.tmps[5]?.getD undef = .pointer (some ⟨w.heap.size, 0, none⟩) := hk 5 (by rfl)
            go_simp
            exact ⟨rfl, Below.refl _ _⟩
          · obtain rfl : j = 0 := Nat.le_zero.1 hj
            have hMs : WrBx w (V) m (zero48) (zero8) ga (atF l tt true) gx14 (maxF (maxF (V (l + 2)) (atF l tt true)) (V 0)) W := hMj
            injection ho with ho; subst ho
            refine .inl ⟨wanted_free rfl, ?_⟩
            have h62 : A.tmps[62]?.getD undef = .pointer (some ⟨w.heap.size, 8, none⟩) := he 6 (by kernel_rfl) (by rfl)
            exact y_load (cs := vwC (V 1)) rfl h62 (vs_range (V := V) (hMs.at'.at5) (1) _ (by omega) rfl) Try.underlying26 rfl vewSize
          · have hj2 : j ≤ 1 := hj
            rcases j with _ | _ | j
            · have hMs : WrBx w (V) m (zero48) (zero8) ga (atF l tt true) gx14 (maxF (maxF (V (l + 2)) (atF l tt true)) (V 0)) W := hMj
              injection ho with ho; subst ho
              refine .inl ⟨wanted_free rfl, ?_⟩
              have h13 : A.tmps[13]?.getD undef = .pointer (some ⟨ga, 0, none⟩) := hk 13 (by rfl)
              exact y_load (cs := vwC (atF l tt true)) rfl h13 (sits_range (hMs.ba)) Try.underlying26 rfl vewSize
            · have hMs : WrBx w (setV V 0 (maxF (V 0) (atF l tt true))) m (zero48) (zero8) ga (atF l tt true) gx14 (maxF (maxF (V (l + 2)) (atF l tt true)) (V 0)) W := hMj
              injection ho with ho; subst ho
              refine .inl ⟨wanted_free rfl, ?_⟩
              have h13 : A.tmps[13]?.getD undef = .pointer (some ⟨ga, 0, none⟩) := hk 13 (by rfl)
              exact y_load (cs := vwC (atF l tt true)) rfl h13 (sits_range (hMs.ba)) Try.underlying26 rfl vewSize
            · omega
          · injection ho with ho; subst ho
            refine .inl ⟨wanted_free rfl, ?_⟩
            have h64 : A.tmps[64]?.getD undef = .agg (vwC (atF l tt true)) := he 8 (by kernel_rfl) (by rfl)
            exact y_oneB hz rfl h64
          · obtain rfl : j = 0 := Nat.le_zero.1 hj
            have hMs : WrBx w (V) m (zero48) (zero8) ga (atF l tt true) gx14 (maxF (maxF (V (l + 2)) (atF l tt true)) (V 0)) W := hMj
            injection ho with ho; subst ho
            refine .inl ⟨wanted_free rfl, ?_⟩
            have h63 : A.tmps[63]?.getD undef = .agg (vwC (V 1)) := he 7 (by kernel_rfl) (by rfl)
            obtain ⟨gr65, hg65, h65, hr65⟩ : rowB _ 26 1 (vwC (atF l tt true)) (A.tmps[65]?.getD undef) W := he 9 (by kernel_rfl) (by rfl)
            go_simp
            refine Calls.mono (join_v (V 1) (atF l tt true) gr65 _ W hr65) ?_
            rintro e' w' ⟨rfl, hb⟩
            exact ⟨_, rfl, rfl, hb⟩
          · have hj2 : j ≤ 2 := hj
            rcases j with _ | _ | _ | j
            · have hMs : WrBx w (V) m (zero48) (zero8) ga (atF l tt true) gx14 (maxF (maxF (V (l + 2)) (atF l tt true)) (V 0)) W := hMj
              injection ho with ho; subst ho
              refine .inl ⟨wanted_free rfl, ?_⟩
              have h14 : A.tmps[14]?.getD undef = .pointer (some ⟨gx14, 0, none⟩) := hk 14 (by rfl)
              exact y_load (cs := vwC (maxF (maxF (V (l + 2)) (atF l tt true)) (V 0))) rfl h14 (sits_range (hMs.bb)) Try.underlying26 rfl vewSize
            · have hMs : WrBx w (setV V 0 (maxF (V 0) (atF l tt true))) m (zero48) (zero8) ga (atF l tt true) gx14 (maxF (maxF (V (l + 2)) (atF l tt true)) (V 0)) W := hMj
              injection ho with ho; subst ho
              refine .inl ⟨wanted_free rfl, ?_⟩
              have h14 : A.tmps[14]?.getD undef = .pointer (some ⟨gx14, 0, none⟩) := hk 14 (by rfl)
              exact y_load (cs := vwC (maxF (maxF (V (l + 2)) (atF l tt true)) (V 0))) rfl h14 (sits_range (hMs.bb)) Try.underlying26 rfl vewSize
            · have hMs : WrBx w (setV (setV V 0 (maxF (V 0) (atF l tt true))) 1 (maxF (V 1) (atF l tt true))) m (zero48) (zero8) ga (atF l tt true) gx14 (maxF (maxF (V (l + 2)) (atF l tt true)) (V 0)) W := hMj
              injection ho with ho; subst ho
              refine .inl ⟨wanted_free rfl, ?_⟩
              have h14 : A.tmps[14]?.getD undef = .pointer (some ⟨gx14, 0, none⟩) := hk 14 (by rfl)
              exact y_load (cs := vwC (maxF (maxF (V (l + 2)) (atF l tt true)) (V 0))) rfl h14 (sits_range (hMs.bb)) Try.underlying26 rfl vewSize
            · omega
          · injection ho with ho; subst ho
            refine .inl ⟨wanted_free rfl, ?_⟩
            have h5 : A.tmps[5]?.getD undef = .pointer (some ⟨w.heap.size, 0, none⟩) := hk 5 (by rfl)
            go_simp
            exact ⟨rfl, Below.refl _ _⟩
          · exact absurd hc (by decide)
          · injection ho with ho; subst ho
            refine .inl ⟨wanted_free rfl, ?_⟩
            have h5 : A.tmps[5]?.getD undef = .pointer (some ⟨w.heap.size, 0, none⟩) := hk 5 (by rfl)
            go_simp
            exact ⟨rfl, Below.refl _ _⟩
          · exact absurd hc (by decide)
          · injection ho with ho; subst ho
            refine .inl ⟨wanted_free rfl, ?_⟩
            have h5 : A.tmps[5]?.getD undef = .pointer (some ⟨w.heap.size, 0, none⟩) := hk 5 (by rfl)
            go_simp
            exact ⟨rfl, Below.refl _ _⟩
          · injection ho with ho; subst ho
            refine .inl ⟨wanted_free rfl, ?_⟩
            have h70 : A.tmps[70]?.getD undef = .pointer (some ⟨w.heap.size, 16, none⟩) := he 16 (by kernel_rfl) (by rfl)
            have h56 : A.tmps[56]?.getD undef = .int .i64 (l : Nat) := he 0 (by kernel_rfl) (by rfl)
            go_simp
            exact ⟨rfl, Below.refl _ _⟩
          · exact absurd hc (by decide)
        · intro j i o hji ho A W hz hMj hk he
          rcases j with _ | _ | _ | j
          · obtain rfl : 13 = i := Option.some.inj hji
            injection ho with ho; subst ho
            refine .inl ⟨wanted_free rfl, ?_⟩
            have hMs : WrBx w (V) m (zero48) (zero8) ga (atF l tt true) gx14 (maxF (maxF (V (l + 2)) (atF l tt true)) (V 0)) W := hMj
            have h68 : A.tmps[68]?.getD undef = .pointer (some ⟨w.heap.size, 0, none⟩) := he 12 (by kernel_rfl) (by rfl)
            have h61 : A.tmps[61]?.getD undef = .agg (vwC (maxF (V 0) (atF l tt true))) := he 5 (by kernel_rfl) (by rfl)
            exact y_storeK rfl h68 h61 hMs.at'.at5 (k := 0) (by omega) (by omega) vewSize (by have := HX2.out.at'.grow; omega) (fun _ _ => trivial) (hMs.setK (0) _ _ (by omega))
          · obtain rfl : 15 = i := Option.some.inj hji
            injection ho with ho; subst ho
            refine .inl ⟨wanted_free rfl, ?_⟩
            have hMs : WrBx w (setV V 0 (maxF (V 0) (atF l tt true))) m (zero48) (zero8) ga (atF l tt true) gx14 (maxF (maxF (V (l + 2)) (atF l tt true)) (V 0)) W := hMj
            have h69 : A.tmps[69]?.getD undef = .pointer (some ⟨w.heap.size, 8, none⟩) := he 14 (by kernel_rfl) (by rfl)
            have h66 : A.tmps[66]?.getD undef = .agg (vwC (maxF (V 1) (atF l tt true))) := he 10 (by kernel_rfl) (by rfl)
            exact y_storeK rfl h69 h66 hMs.at'.at5 (k := 1) (by omega) (by omega) vewSize (by have := HX2.out.at'.grow; omega) (fun _ _ => trivial) (hMs.setK (1) _ _ (by omega))
          · obtain rfl : 18 = i := Option.some.inj hji
            injection ho with ho; subst ho
            refine .inl ⟨wanted_free rfl, ?_⟩
            have hMs : WrBx w (setV (setV V 0 (maxF (V 0) (atF l tt true))) 1 (maxF (V 1) (atF l tt true))) m (zero48) (zero8) ga (atF l tt true) gx14 (maxF (maxF (V (l + 2)) (atF l tt true)) (V 0)) W := hMj
            have h71 : A.tmps[71]?.getD undef = .pointer (some ⟨w.heap.size, 16 + l * 8, none⟩) := he 17 (by kernel_rfl) (by rfl)
            have h67 : A.tmps[67]?.getD undef = .agg (vwC (maxF (maxF (V (l + 2)) (atF l tt true)) (V 0))) := he 11 (by kernel_rfl) (by rfl)
            exact y_storeK rfl h71 h67 hMs.at'.at5 (k := l + 2) (by have := HL.out; omega) (by omega) vewSize (by have := HX2.out.at'.grow; omega) (fun _ _ => trivial) (hMs.setK (l + 2) _ _ (by omega))
          · simp at hji
        · intro xs W hz hMe hV
          have hMe : WrBx w (setV (setV (setV V 0 (maxF (V 0) (atF l tt true))) 1 (maxF (V 1) (atF l tt true))) (l + 2) (maxF (maxF (V (l + 2)) (atF l tt true)) (V 0))) m (zero48) (zero8) ga (atF l tt true) gx14 (maxF (maxF (V (l + 2)) (atF l tt true)) (V 0)) W := hMe
          simp only [putM, Act.put, List.setIfInBounds_toArray, List.set_cons_zero, List.set_cons_succ, Nat.zero_add, Nat.reduceAdd]
          clear hV
          generalize W = W3 at hMe ⊢
          have HY := Lib.hid hMe
          clear hMe hz HX2
          go_upto_region 14 with (fail)
          refine wp_flowM [some 72, some 73, some 74, none, none, some 12] [3, 4] [0, 1, 0, 0, 0, 2] [eqV (.agg (vsC (setV (setV (setV V 0 (maxF (V 0) (atF l tt true))) 1 (maxF (V 1) (atF l tt true))) (l + 2) (maxF (maxF (V (l + 2)) (atF l tt true)) (V 0))))), eqV (.func (.func 28) #[] #[.pointer (some ⟨gx14, 0, none⟩), .pointer (some ⟨w.heap.size + 1, 0, none⟩)]), eqV (.agg (vwC (maxF (maxF (maxF (V (l + 2)) (atF l tt true)) (V 0)) m))), fun _ _ => True, fun _ _ => True, eqV (.bool true)] (fun j W => match j with | 0 => WrBx w (setV (setV (setV V 0 (maxF (V 0) (atF l tt true))) 1 (maxF (V 1) (atF l tt true))) (l + 2) (maxF (maxF (V (l + 2)) (atF l tt true)) (V 0))) m (zero48) (zero8) ga (atF l tt true) gx14 (maxF (maxF (V (l + 2)) (atF l tt true)) (V 0)) W | 1 => WrBx w (setV (setV (setV V 0 (maxF (V 0) (atF l tt true))) 1 (maxF (V 1) (atF l tt true))) (l + 2) (maxF (maxF (V (l + 2)) (atF l tt true)) (V 0))) m (vsC (setV (setV (setV V 0 (maxF (V 0) (atF l tt true))) 1 (maxF (V 1) (atF l tt true))) (l + 2) (maxF (maxF (V (l + 2)) (atF l tt true)) (V 0)))) (zero8) ga (atF l tt true) gx14 (maxF (maxF (V (l + 2)) (atF l tt true)) (V 0)) W | _ => WrBx w (setV (setV (setV V 0 (maxF (V 0) (atF l tt true))) 1 (maxF (V 1) (atF l tt true))) (l + 2) (maxF (maxF (V (l + 2)) (atF l tt true)) (V 0))) m (vsC (setV (setV (setV V 0 (maxF (V 0) (atF l tt true))) 1 (maxF (V 1) (atF l tt true))) (l + 2) (maxF (maxF (V (l + 2)) (atF l tt true)) (V 0)))) (vwC (maxF (maxF (maxF (V (l + 2)) (atF l tt true)) (V 0)) m)) ga (atF l tt true) gx14 (maxF (maxF (V (l + 2)) (atF l tt true)) (V 0)) W) (by kernel_rfl) (by kernel_rfl) (by kernel_rfl) (by rfl)
            (by simp only [List.mem_cons, List.not_mem_nil, or_false, forall_eq_or_imp, forall_eq]; refine ⟨?_, ?_, ?_, ?_, ?_, ?_⟩ <;> (first | exact eqV_monoB _ _ | exact rowB_mono _ _ _ _ | exact true_monoB _))
            (fun j W W' h hb => by rcases j with _ | _ | j <;> first | exact (WrBx.grown h hb)) (HY.out) ?_ ?_ ?_
          · intro i o hi ho hc j A W hj hz hMj hk he
            simp only [List.length_cons, List.length_nil, Nat.zero_add, Nat.reduceAdd] at hi
            obtain rfl | rfl | rfl | rfl | rfl | rfl : i = 0 ∨ i = 1 ∨ i = 2 ∨ i = 3 ∨ i = 4 ∨ i = 5 := by omega
            · obtain rfl : j = 0 := Nat.le_zero.1 hj
              have hMs : WrBx w (setV (setV (setV V 0 (maxF (V 0) (atF l tt true))) 1 (maxF (V 1) (atF l tt true))) (l + 2) (maxF (maxF (V (l + 2)) (atF l tt true)) (V 0))) m (zero48) (zero8) ga (atF l tt true) gx14 (maxF (maxF (V (l + 2)) (atF l tt true)) (V 0)) W := hMj
              injection ho with ho; subst ho
              refine .inl ⟨wanted_free rfl, ?_⟩
              have h5 : A.tmps[5]?.getD undef = .pointer (some ⟨w.heap.size, 0, none⟩) := hk 5 (by rfl)
              exact y_load (cs := vsC (setV (setV (setV V 0 (maxF (V 0) (atF l tt true))) 1 (maxF (V 1) (atF l tt true))) (l + 2) (maxF (maxF (V (l + 2)) (atF l tt true)) (V 0)))) rfl h5 (sits_range (hMs.at'.at5)) Try.underlying29 rfl vsSize
            · injection ho with ho; subst ho
              refine .inl ⟨wanted_free rfl, ?_⟩
              have h15 : A.tmps[15]?.getD undef = .func (.func 28) #[] #[.pointer (some ⟨gx14, 0, none⟩), .pointer (some ⟨w.heap.size + 1, 0, none⟩)] := hk 15 (by rfl)
              go_simp
              exact ⟨rfl, Below.refl _ _⟩
            · obtain rfl : j = 0 := Nat.le_zero.1 hj
              have hMs : WrBx w (setV (setV (setV V 0 (maxF (V 0) (atF l tt true))) 1 (maxF (V 1) (atF l tt true))) (l + 2) (maxF (maxF (V (l + 2)) (atF l tt true)) (V 0))) m (zero48) (zero8) ga (atF l tt true) gx14 (maxF (maxF (V (l + 2)) (atF l tt true)) (V 0)) W := hMj
              injection ho with ho; subst ho
              refine .inl ⟨wanted_free rfl, ?_⟩
              have h73 : A.tmps[73]?.getD undef = .func (.func 28) #[] #[.pointer (some ⟨gx14, 0, none⟩), .pointer (some ⟨w.heap.size + 1, 0, none⟩)] := he 1 (by kernel_rfl) (by rfl)
              go_simp
              refine Calls.mono (tell1_any (maxF (maxF (V (l + 2)) (atF l tt true)) (V 0)) m gx14 (w.heap.size + 1) W hMs.bb hMs.at'.at9) ?_
              rintro e' w' ⟨rfl, hb⟩
              exact ⟨_, rfl, rfl, hb⟩
            · exact absurd hc (by decide)
            · exact absurd hc (by decide)
            · injection ho with ho; subst ho
              refine .inl ⟨wanted_free rfl, ?_⟩
              go_simp
              exact ⟨rfl, Below.refl _ _⟩
          · intro j i o hji ho A W hz hMj hk he
            rcases j with _ | _ | j
            · obtain rfl : 3 = i := Option.some.inj hji
              injection ho with ho; subst ho
              refine .inl ⟨wanted_free rfl, ?_⟩
              have hMs : WrBx w (setV (setV (setV V 0 (maxF (V 0) (atF l tt true))) 1 (maxF (V 1) (atF l tt true))) (l + 2) (maxF (maxF (V (l + 2)) (atF l tt true)) (V 0))) m (zero48) (zero8) ga (atF l tt true) gx14 (maxF (maxF (V (l + 2)) (atF l tt true)) (V 0)) W := hMj
              have h10 : A.tmps[10]?.getD undef = .pointer (some ⟨w.heap.size + 1 + 1, 0, none⟩) := hk 10 (by rfl)
              have h72 : A.tmps[72]?.getD undef = .agg (vsC (setV (setV (setV V 0 (maxF (V 0) (atF l tt true))) 1 (maxF (V 1) (atF l tt true))) (l + 2) (maxF (maxF (V (l + 2)) (atF l tt true)) (V 0)))) := he 0 (by kernel_rfl) (by rfl)
              exact y_store rfl h10 h72 hMs.at'.at10 (by rw [vsC_size]; exact vsSize) (zero48_size.trans (vsC_size _).symm) (vsC_one _) (by have := HY.out.at'.grow; omega) (fun _ _ => trivial) (hMs.out _)
            · obtain rfl : 4 = i := Option.some.inj hji
              injection ho with ho; subst ho
              refine .inl ⟨wanted_free rfl, ?_⟩
              have hMs : WrBx w (setV (setV (setV V 0 (maxF (V 0) (atF l tt true))) 1 (maxF (V 1) (atF l tt true))) (l + 2) (maxF (maxF (V (l + 2)) (atF l tt true)) (V 0))) m (vsC (setV (setV (setV V 0 (maxF (V 0) (atF l tt true))) 1 (maxF (V 1) (atF l tt true))) (l + 2) (maxF (maxF (V (l + 2)) (atF l tt true)) (V 0)))) (zero8) ga (atF l tt true) gx14 (maxF (maxF (V (l + 2)) (atF l tt true)) (V 0)) W := hMj
              have h11 : A.tmps[11]?.getD undef = .pointer (some ⟨w.heap.size + 1 + 1 + 1, 0, none⟩) := hk 11 (by rfl)
              have h74 : A.tmps[74]?.getD undef = .agg (vwC (maxF (maxF (maxF (V (l + 2)) (atF l tt true)) (V 0)) m)) := he 2 (by kernel_rfl) (by rfl)
              exact y_store rfl h11 h74 hMs.at'.at11 vewSize rfl (vwC_one _) (by have := HY.out.at'.grow; omega) (fun _ _ => trivial) (hMs.out2 _)
            · simp at hji
          · intro xs W hz hMe hV
            have hMe : WrBx w (setV (setV (setV V 0 (maxF (V 0) (atF l tt true))) 1 (maxF (V 1) (atF l tt true))) (l + 2) (maxF (maxF (V (l + 2)) (atF l tt true)) (V 0))) m (vsC (setV (setV (setV V 0 (maxF (V 0) (atF l tt true))) 1 (maxF (V 1) (atF l tt true))) (l + 2) (maxF (maxF (V (l + 2)) (atF l tt true)) (V 0)))) (vwC (maxF (maxF (maxF (V (l + 2)) (atF l tt true)) (V 0)) m)) ga (atF l tt true) gx14 (maxF (maxF (V (l + 2)) (atF l tt true)) (V 0)) W := hMe
            have e12 : xs 5 = .bool true := hV 5 (by simp) rfl
            simp only [putM, Act.put, List.setIfInBounds_toArray, List.set_cons_zero, List.set_cons_succ, Nat.zero_add, Nat.reduceAdd, e12]
            clear hV e12
            generalize W = W4 at hMe ⊢
            have HZ := Lib.hid hMe
            clear hMe hz HY
            go_wp2_with fail
            exact bodyPost_ret (v := .tuple #[.agg (vsC (setV (setV (setV V 0 (maxF (V 0) (atF l tt true))) 1 (maxF (V 1) (atF l tt true))) (l + 2) (maxF (maxF (V (l + 2)) (atF l tt true)) (V 0)))), .agg (vwC (maxF (maxF (maxF (V (l + 2)) (atF l tt true)) (V 0)) m)), .bool true]) (result_svb Try.results8 rfl rfl rfl HZ.out.at'.at10 HZ.out.at'.at11) rfl ⟨by rw [hv.out, hm.out, hk.out], HZ.out.at'.low⟩
  have hk : Hid (writeOk V loc tt mo = false) := Lib.hid (by unfold writeOk; simp [h1, h2, h4])
  have hv : Hid (writeV V loc tt mo = V) := Lib.hid (by unfold writeV; rw [hk.out]; rfl)
  have hm : Hid (writeM V loc tt mo m = zeroF) := Lib.hid (by unfold writeM; rw [hk.out]; rfl)
  have e1 : ((mo : Int) == 1) = false := by simpa using h1
  have e2 : ((mo : Int) == 2) = false := by simpa using h2
  have e4 : ((mo : Int) == 4) = false := by simpa using h4
  clear h1 h2 h4
  subst hloc
  clear hfr
  go_enter Try.func8, Try.ntmps8
  go_upto_region 1 with (fail)
  generalize (((w.alloc (.cells (vsC V) 29)).alloc (.cells (vwC m) 26)).alloc (.cells zero48 29)).alloc (.cells zero8 26) = w0 at HB ⊢
  have d0 : w0.cell? ⟨w.heap.size, 4 + l, none⟩ = some (.int .i64 (V 0 (l + 4))) := by rw [Nat.add_comm 4 l]; exact HB.out.cur (l + 4) (by have := HL.out; omega)
  have i0 : (0 : Int) ≤ (l : Int) := by omega
  have i4 : (l : Int) < 4 := by have := HL.out; omega
  go_upto_region 3 with (go_at_call 27; refine (may2_any _ _ _).mono ?_; rintro e' w' ⟨rfl, h⟩; rw [h]; clear h w')
  clear d0 k0
  go_wp2_with fail
  refine (at_v _ _ _ _).mono ?_
  rintro e' w1 ⟨rfl, hb⟩
  have HB1 := Lib.hid (HB.out.grown hb)
  clear hb HB
  go_upto_region 4 with (refine wpList_store_row rfl 26 _ _ rfl (w1.heap.size) (vwC (atF l tt true)) rfl rfl 26 zero8 (Sits.new _ _ _) vewSize rfl (vwC_one _) ?_)
  have HO := Lib.hid (HB1.out.boxed (atF l tt true))
  generalize (w1.alloc (.cells zero8 26)).setRow w1.heap.size (vwC (atF l tt true)) = w2 at HO ⊢
  generalize w1.heap.size = ga at HO ⊢
  clear HB1
  refine wp_flowG [34, 35, 36, 37, 38, 39, 40, 14] [eqV (.int .i64 (l : Nat)), eqV (.pointer (some ⟨w.heap.size, 16, none⟩)), eqV (.pointer (some ⟨w.heap.size, 16 + l * 8, none⟩)), eqV (.agg (vwC (V (l + 2)))), eqV (.agg (vwC (atF l tt true))), rowV 26 1 (vwC (atF l tt true)), eqV (.agg (vwC (maxF (V (l + 2)) (atF l tt true)))), boxV w2.heap.size 26 zero8] (by kernel_rfl) (by kernel_rfl) (by kernel_rfl) (by kernel_rfl) (by rfl)
    (by simp only [List.mem_cons, List.not_mem_nil, or_false, forall_eq_or_imp, forall_eq]; refine ⟨?_, ?_, ?_, ?_, ?_, ?_, ?_, ?_⟩ <;> (first | exact eqV_mono _ | exact rowV_mono _ _ _ | exact boxV_mono _ _ _)) ?_ ?_
  · intro i o hi ho A W hW hk he
    simp only [List.length_cons, List.length_nil, Nat.zero_add, Nat.reduceAdd] at hi
    obtain rfl | rfl | rfl | rfl | rfl | rfl | rfl | rfl : i = 0 ∨ i = 1 ∨ i = 2 ∨ i = 3 ∨ i = 4 ∨ i = 5 ∨ i = 6 ∨ i = 7 := by omega
    · injection ho with ho; subst ho
      refine .inl ⟨wanted_free rfl, ?_⟩
      have h1 : A.tmps[1]?.getD undef = .int .i64 (l : Nat) := hk 1 (by rfl)
      go_simp
      exact ⟨rfl, Below.refl _ _⟩
    · injection ho with ho; subst ho
      refine .inl ⟨wanted_free rfl, ?_⟩
      have h5 : A.tmps[5]?.getD undef = .pointer (some ⟨w.heap.size, 0, none⟩) := hk 5 (by rfl)
      go_simp
      exact ⟨rfl, Below.refl _ _⟩
    · injection ho with ho; subst ho
      refine .inl ⟨wanted_free rfl, ?_⟩
      have h35 : A.tmps[35]?.getD undef = .pointer (some ⟨w.heap.size, 16, none⟩) := he 1 (by kernel_rfl)
      have h34 : A.tmps[34]?.getD undef = .int .i64 (l : Nat) := he 0 (by kernel_rfl)
      go_simp
      exact ⟨rfl, Below.refl _ _⟩
    · injection ho with ho; subst ho
      refine .inl ⟨wanted_free rfl, ?_⟩
      have h36 : A.tmps[36]?.getD undef = .pointer (some ⟨w.heap.size, 16 + l * 8, none⟩) := he 2 (by kernel_rfl)
      exact y_load (cs := vwC (V (l + 2))) rfl h36 (vs_range (V := V) ((HO.out.grown hW).at'.at5) ((l + 2)) _ (by have := HL.out; omega) (by omega)) Try.underlying26 rfl vewSize
    · injection ho with ho; subst ho
      refine .inl ⟨wanted_free rfl, ?_⟩
      have h13 : A.tmps[13]?.getD undef = .pointer (some ⟨ga, 0, none⟩) := hk 13 (by rfl)
      exact y_load (cs := vwC (atF l tt true)) rfl h13 (sits_range ((HO.out.grown hW).ba)) Try.underlying26 rfl vewSize
    · injection ho with ho; subst ho
      refine .inl ⟨wanted_free rfl, ?_⟩
      have h38 : A.tmps[38]?.getD undef = .agg (vwC (atF l tt true)) := he 4 (by kernel_rfl)
      exact y_one rfl h38
    · injection ho with ho; subst ho
      refine .inl ⟨wanted_free rfl, ?_⟩
      have h37 : A.tmps[37]?.getD undef = .agg (vwC (V (l + 2))) := he 3 (by kernel_rfl)
      obtain ⟨gr39, h39, hr39⟩ : rowV 26 1 (vwC (atF l tt true)) (A.tmps[39]?.getD undef) W := he 5 (by kernel_rfl)
      go_simp
      refine Calls.mono (join_v (V (l + 2)) (atF l tt true) gr39 _ W hr39) ?_
      rintro e' w' ⟨rfl, hb⟩
      exact ⟨_, rfl, rfl, hb⟩
    · injection ho with ho; subst ho
      refine .inl ⟨wanted_free rfl, ?_⟩
      go_simp
      exact ⟨⟨_, hW.size, Sits.new _ _ _, rfl⟩, (Below.refl _ _).alloc (Nat.le_refl _) _⟩
  · intro xs W hW hV
    obtain ⟨gx14, hB14, hs14, e14⟩ : boxV w2.heap.size 26 zero8 (xs 7) W := hV 7 (by simp)
    have e40 : xs 6 = .agg (vwC (maxF (V (l + 2)) (atF l tt true))) := hV 6 (by simp)
    simp only [List.length_cons, List.length_nil, Nat.zero_add, Nat.reduceAdd, List.drop_succ_cons, List.drop_zero, putL, Act.put, List.setIfInBounds_toArray, List.set_cons_zero, List.set_cons_succ, e14, e40]
    clear hV e14 e40
    refine wpList_store_row rfl 26 _ _ rfl gx14 (vwC (maxF (V (l + 2)) (atF l tt true))) rfl rfl 26 zero8 hs14 vewSize rfl (vwC_one _) ?_
    have HX := Lib.hid ((HO.out.grown hW).two hs14 (Nat.lt_of_lt_of_le HO.out.ba.lt hB14) (maxF (V (l + 2)) (atF l tt true)))
    generalize W.setRow gx14 (vwC (maxF (V (l + 2)) (atF l tt true))) = W1 at HX ⊢
    clear hW hs14 hB14 HO
    go_upto_region 7 with (fail)
    have s5 := (HX.out.at').at5
    go_wp2_with (first | refine wpList_load_row rfl 29 _ rfl _ rfl _ (vsC V) (0, 0) _ s5 Try.underlying29 rfl (by rw [vsC_size]; exact vsSize) ?_ | refine wpList_store_row rfl 29 _ _ rfl (w.heap.size + 1 + 1) (vsC V) rfl rfl 29 zero48 (HX.out.at').at10 (by rw [vsC_size]; exact vsSize) (zero48_size.trans (vsC_size _).symm) (vsC_one _) ?_ | refine wpList_store_row rfl 26 _ _ rfl (w.heap.size + 1 + 1 + 1) (vwC zeroF) rfl rfl 26 zero8 ((HX.out.at').out (vsC V)).at11 vewSize rfl (vwC_one _) ?_)
    clear s5
    have HE2 := Lib.hid (((HX.out.at').out (vsC V)).out2 (vwC zeroF))
    generalize (W1.setRow (w.heap.size + 1 + 1) (vsC V)).setRow (w.heap.size + 1 + 1 + 1) (vwC zeroF) = WE2 at HE2 ⊢
    go_wp2_with fail
    exact bodyPost_ret (v := .tuple #[.agg (vsC V), .agg (vwC zeroF), .bool false]) (result_svb Try.results8 rfl rfl rfl HE2.out.at10 HE2.out.at11) rfl ⟨by rw [hv.out, hm.out, hk.out], HE2.out.low⟩
end Go.Proofs.Ytanbkclomjbokaa.Tvw
