/- Layer 13 (tview): the walk of TviewPlays. -/
import Derived.Test.YtanbkclomjbokaaTvwT
import Derived.Test.YtanbkclomjbokaaTvwV
namespace Go.Proofs.Ytanbkclomjbokaa.Tvw
open Go.RowKit Go.Proofs.Ytanbkclomjbokaa.Mem Go.Proofs.Ytanbkclomjbokaa.Flow Go.Proofs.Ytanbkclomjbokaa.Vew

theorem Bs.upd {w W : World} {l1 l2 : List (Nat × TypeId × Array Value)} {g : Nat} {t : TypeId} {old : Array Value} (h : Bs w (l1 ++ (g, t, old) :: l2) W) (hg : w.heap.size ≤ g) (hn : ∀ p ∈ l1 ++ l2, p.1 ≠ g) (cs : Array Value) : Bs w (l1 ++ (g, t, cs) :: l2) (W.setRow g cs) :=
  ⟨fun p hp => by
    have hs : Sits W g t old := h.sits (g, t, old) (by simp)
    rcases List.mem_append.1 hp with hp | hp
    · exact (setRow_other _ _ _ _ (hn p (List.mem_append_left _ hp))).trans (h.sits p (List.mem_append_left _ hp))
    · rcases List.mem_cons.1 hp with rfl | hp
      · exact setRow_heap _ _ _ _ _ _ hs
      · exact (setRow_other _ _ _ _ (hn p (List.mem_append_right _ hp))).trans (h.sits p (List.mem_append_right _ (List.mem_cons.2 (.inr hp)))), h.low.trans (below_row hg)⟩
theorem Bs.mono {w W : World} {l l' : List (Nat × TypeId × Array Value)} (h : Bs w l W) (hs : ∀ p ∈ l', p ∈ l) : Bs w l' W := ⟨fun p hp => h.sits p (hs p hp), h.low⟩
abbrev zeroA : Array Value := #[.int .u8 0, .int .u8 0, .int .i64 0, .int .i64 0, .int .i64 0, .int .i64 0, .int .i64 0, .int .i64 0, .int .i64 0, .int .i64 0, .int .i64 0, .int .i64 0]
theorem actSize : (Try.prog.info? 35).map (·.size) = some 12 := by kernel_rfl
theorem act_one (a : TA) : (taCells a).all (·.oneCell') = true := by simp [taCells, Value.oneCell']
theorem act_range {W : World} {g : Nat} {t : TypeId} {a : TA} (h : Sits W g t (taCells a)) : W.rangeAt g 4 (vwC a.m).toList := fun j v hv => by
  have hj : j < 8 := by
    have := (List.getElem?_eq_some_iff.1 hv).1
    simpa [vwC_size] using this
  rw [h.cell]
  rw [← Array.getElem?_toList] at *
  rcases (by omega : j = 0 ∨ j = 1 ∨ j = 2 ∨ j = 3 ∨ j = 4 ∨ j = 5 ∨ j = 6 ∨ j = 7) with rfl | rfl | rfl | rfl | rfl | rfl | rfl | rfl <;> exact hv
theorem Acts.there {w : World} {p : Option Addr} {l : List TA} (h : Acts w p l) {k : Nat} {a : TA} (hx : l[k]? = some a) : ∃ g o, p = some ⟨g, o, none⟩ ∧ g < w.heap.size ∧ ∀ W, Below w.heap.size w W → ∀ i, i < 12 → W.cell? ⟨g, o + k * 12 + i, none⟩ = (taCells a)[i]? := by
  obtain ⟨g, o, e, hg, hc⟩ := h k a hx
  exact ⟨g, o, e, hg, fun W hb i hi => (hb.cell (p := ⟨g, o + k * 12 + i, none⟩) hg).trans (hc i hi)⟩
theorem neq_arr (f g : Nat → Int) (W : World) : (binOp .neq 24 (arr f) (arr g)).run Try.prog W = .ok (.bool (!sameF 4 f g)) W := by
  rw [run_neq_struct, show (10000 : Nat) = 9998 + 2 from rfl, eq_arr]; rfl
theorem same_self (n : Nat) (f : Nat → Int) : sameF n f f = true := by rw [same_iff]; intro i _; rfl
theorem sameV_self (V : Nat → Nat → Int) : sameV V V = true := sameV_iff.2 fun _ _ _ _ => rfl
def xor5 (_ n : Int) : Int := bits .xor .i64 n 5
theorem xor5_says : Says 15 #[] #[] xor5 (fun _ => True) where
  enters := enters_of Try.func15 (by kernel_rfl) rfl
  keep := fun _ _ _ _ => trivial
  call := fun i n w _ _ _ => by
    show Calls Try.prog 15 #[.int .i64 i, .int .i64 n] w _
    go_enter Try.func15, Try.ntmps15
    go_wp2
    go_ret
    exact ⟨rfl, Below.refl _ _⟩
set_option maxRecDepth 100000 in
set_option maxHeartbeats 16000000 in
theorem tplays_law (l : List TA) (pl : Option Addr) (cl : Nat) (w : World) (hA : Acts w pl l) (hll : l.length ≤ 9223372036854775807) :
    Calls Try.prog 3 #[.slice pl l.length cl] w (Made (.returned (.bool true)) w) := by
  have i1 : (l.length : Int) ≤ 9223372036854775807 := by omega
  by_cases h1 : 100 < l.length
  · have k0 : (100 : Int) < (l.length : Int) := by omega
    clear h1 hA hll
    go_enter Try.func3, Try.ntmps3
    go_wp2_with fail
    refine (wakes_any _).mono ?_
    rintro e w1 ⟨rfl, hb⟩
    go_wp2_with fail
    go_ret
    exact ⟨rfl, hb⟩
  have k0 : ¬ (100 : Int) < (l.length : Int) := by omega
  have HA := Lib.hid hA
  have HLN : Hid (l.length ≤ 100) := Lib.hid (by omega)
  clear h1 hA hll
  have H0 := Lib.hid (((((bs_new w).new 29 zero48).new 33 zero48).new 24 zero4).new 24 zero4)
  simp only [World.size_alloc] at H0
  go_enter Try.func3, Try.ntmps3
  go_upto_region 6 with (fail)
  generalize (((w.alloc (.cells zero48 29)).alloc (.cells zero48 33)).alloc (.cells zero4 24)).alloc (.cells zero4 24) = w0 at H0 ⊢
  go_wp2_with fail
  go_loopg [7] l.length (fun gg v7 wx => ∃ i V S, i ≤ l.length ∧ gg = l.length - i ∧ v7 = .int .i64 (i : Nat) ∧ Hid (Bs w [(w.heap.size + 1 + 1 + 1, 24, arrC (S)), (w.heap.size + 1 + 1, 24, arrC (S)), (w.heap.size + 1, 33, vsC (V)), (w.heap.size, 29, vsC (V))] wx ∧ NnV V))
  case atStart => exact ⟨0, zV, zeroF, by omega, by omega, rfl, Lib.hid ⟨H0.out, fun _ _ _ _ => Int.le_refl 0⟩⟩
  case round =>
    obtain ⟨i, V, S, hi, rfl, rfl, HJ⟩ := hrel
    have HN := Lib.hid HJ.out.2
    by_cases hlt : i < l.length
    · have j1 : (i : Int) < (l.length : Int) := by omega
      have j0 : (0 : Int) ≤ (i : Int) := by omega
      have HL := Lib.hid hlt
      have hik : l[i]? = some l[i] := List.getElem?_eq_getElem hlt
      generalize l[i] = a0 at hik
      obtain ⟨d, mo, lc, tt, m⟩ := a0
      obtain ⟨g, o, rfl, hgl, hc⟩ := HA.out.there hik
      have hcc := hc wr HJ.out.1.low
      have c0 : wr.cell? ⟨g, o + i * 12, none⟩ = some (.int .u8 d) := hcc 0 (by omega)
      have c1 : wr.cell? ⟨g, o + i * 12 + 1, none⟩ = some (.int .u8 mo) := hcc 1 (by omega)
      have c2 : wr.cell? ⟨g, o + i * 12 + 2, none⟩ = some (.int .i64 lc) := hcc 2 (by omega)
      have c3 : wr.cell? ⟨g, o + i * 12 + 3, none⟩ = some (.int .i64 tt) := hcc 3 (by omega)
      have c4 : wr.cell? ⟨g, o + i * 12 + 4, none⟩ = some (.int .i64 (m 0)) := hcc 4 (by omega)
      have c5 : wr.cell? ⟨g, o + i * 12 + 5, none⟩ = some (.int .i64 (m 1)) := hcc 5 (by omega)
      have c6 : wr.cell? ⟨g, o + i * 12 + 6, none⟩ = some (.int .i64 (m 2)) := hcc 6 (by omega)
      have c7 : wr.cell? ⟨g, o + i * 12 + 7, none⟩ = some (.int .i64 (m 3)) := hcc 7 (by omega)
      have c8 : wr.cell? ⟨g, o + i * 12 + 8, none⟩ = some (.int .i64 (m 4)) := hcc 8 (by omega)
      have c9 : wr.cell? ⟨g, o + i * 12 + 9, none⟩ = some (.int .i64 (m 5)) := hcc 9 (by omega)
      have c10 : wr.cell? ⟨g, o + i * 12 + 10, none⟩ = some (.int .i64 (m 6)) := hcc 10 (by omega)
      have c11 : wr.cell? ⟨g, o + i * 12 + 11, none⟩ = some (.int .i64 (m 7)) := hcc 11 (by omega)
      clear hi hik hc hcc hgl
      go_upto_region 10 with (refine wpList_store_row rfl 35 _ _ rfl (wr.heap.size) (taCells ⟨d, mo, lc, tt, m⟩) rfl rfl 35 zeroA (Sits.new _ _ _) actSize rfl (act_one _) ?_)
      have hg8 : w.heap.size + 4 ≤ wr.heap.size := by
        have h1 := (HJ.out.1.get (g := w.heap.size + 1 + 1 + 1) (t := 24) (cs := arrC (S)) (by simp)).lt
        omega
      have HK := Lib.hid (HJ.out.1.add 35 zeroA (taCells ⟨d, mo, lc, tt, m⟩))
      generalize (wr.alloc (.cells zeroA 35)).setRow wr.heap.size (taCells ⟨d, mo, lc, tt, m⟩) = w1 at HK ⊢
      generalize wr.heap.size = g8 at HK hg8 ⊢
      clear c0 c1 c2 c3 c4 c5 c6 c7 c8 c9 c10 c11 HJ
      have c0 : w1.cell? ⟨g8, 0, none⟩ = some (.int .u8 d) := (HK.out.get (g := g8) (t := 35) (cs := taCells ⟨d, mo, lc, tt, m⟩) (by simp)).cell 0
      by_cases h0 : d = 0
      ·
        subst h0
        go_upto_region 15 with (fail)
        clear c0
        have hgz : w.heap.size + 4 ≤ w1.heap.size ∧ g8 < w1.heap.size := by
          have h1 := ((HK.out.get (g := g8) (t := 35) (cs := taCells ⟨0, mo, lc, tt, m⟩) (by simp))).lt
          omega
        refine wp_flowS1 [some 60, some 61, some 62, some 63, some 64, some 59, some 65, some 66, some 67, none, none, some 9] [9, 10] [0, 0, 0, 0, 0, 0, 0, 0, 0, 0, 0, 2] [eqV (.agg (vsC (V))), eqV (.pointer (some ⟨g8, 1, none⟩)), eqV (.int .u8 mo), eqV (arr (S)), eqV (.tuple #[.agg (vsC (fenceV V S mo)), arr (fenceS V S mo), .bool (fenceOk mo)]), eqV (.tuple #[.agg (vsC (fenceV V S mo)), arr (fenceS V S mo), .bool (fenceOk mo)]), eqV (.agg (vsC (fenceV V S mo))), eqV (arr (fenceS V S mo)), eqV (.bool (fenceOk mo)), fun _ _ => True, fun _ _ => True, eqV (.bool (fenceOk mo))] (fun j W => match j with | 0 => Bs w [(g8, 35, taCells ⟨0, mo, lc, tt, m⟩), (w.heap.size + 1 + 1 + 1, 24, arrC (S)), (w.heap.size + 1 + 1, 24, arrC (S)), (w.heap.size + 1, 33, vsC (V)), (w.heap.size, 29, vsC (V))] W | 1 => Bs w [(g8, 35, taCells ⟨0, mo, lc, tt, m⟩), (w.heap.size + 1 + 1 + 1, 24, arrC (S)), (w.heap.size + 1 + 1, 24, arrC (S)), (w.heap.size + 1, 33, vsC (V)), (w.heap.size, 29, vsC (fenceV V S mo))] W | _ => Bs w [(g8, 35, taCells ⟨0, mo, lc, tt, m⟩), (w.heap.size + 1 + 1 + 1, 24, arrC (S)), (w.heap.size + 1 + 1, 24, arrC (fenceS V S mo)), (w.heap.size + 1, 33, vsC (V)), (w.heap.size, 29, vsC (fenceV V S mo))] W) (by kernel_rfl) (by kernel_rfl) (by kernel_rfl) (by rfl)
          (by simp only [List.mem_cons, List.not_mem_nil, or_false, forall_eq_or_imp, forall_eq]; refine ⟨?_, ?_, ?_, ?_, ?_, ?_, ?_, ?_, ?_, ?_, ?_, ?_⟩ <;> (first | exact eqV_monoB _ _ | exact rowB_mono _ _ _ _ | exact true_monoB _))
          (fun j W W' h hb => by rcases j with _ | _ | j <;> first | exact (Bs.grown h hb)) (HK.out) ?_ ?_ ?_
        · intro i o hi ho hc j A W hj hz hMj hk he
          simp only [List.length_cons, List.length_nil, Nat.zero_add, Nat.reduceAdd] at hi
          obtain rfl | rfl | rfl | rfl | rfl | rfl | rfl | rfl | rfl | rfl | rfl | rfl : i = 0 ∨ i = 1 ∨ i = 2 ∨ i = 3 ∨ i = 4 ∨ i = 5 ∨ i = 6 ∨ i = 7 ∨ i = 8 ∨ i = 9 ∨ i = 10 ∨ i = 11 := by omega
          · obtain rfl : j = 0 := hj
            have hMs : Bs w [(g8, 35, taCells ⟨0, mo, lc, tt, m⟩), (w.heap.size + 1 + 1 + 1, 24, arrC (S)), (w.heap.size + 1 + 1, 24, arrC (S)), (w.heap.size + 1, 33, vsC (V)), (w.heap.size, 29, vsC (V))] W := hMj
            injection ho with ho; subst ho
            refine .inl ⟨wanted_free rfl, ?_⟩
            have h3 : A.tmps[3]?.getD undef = .pointer (some ⟨w.heap.size, 0, none⟩) := hk 3 (by rfl)
            exact y_load (cs := vsC (V)) rfl h3 (sits_range ((hMs.get (g := w.heap.size) (t := 29) (cs := vsC (V)) (by simp)))) Try.underlying29 rfl vsSize
          · injection ho with ho; subst ho
            refine .inl ⟨wanted_free rfl, ?_⟩
            have h8 : A.tmps[8]?.getD undef = .pointer (some ⟨g8, 0, none⟩) := hk 8 (by rfl)
            go_simp
            exact ⟨rfl, Below.refl _ _⟩
          · obtain rfl : j = 0 := hj
            have hMs : Bs w [(g8, 35, taCells ⟨0, mo, lc, tt, m⟩), (w.heap.size + 1 + 1 + 1, 24, arrC (S)), (w.heap.size + 1 + 1, 24, arrC (S)), (w.heap.size + 1, 33, vsC (V)), (w.heap.size, 29, vsC (V))] W := hMj
            injection ho with ho; subst ho
            refine .inl ⟨wanted_free rfl, ?_⟩
            have h61 : A.tmps[61]?.getD undef = .pointer (some ⟨g8, 1, none⟩) := he 1 (by kernel_rfl) (by rfl)
            have c0 := (hMs.get (g := g8) (t := 35) (cs := taCells ⟨0, mo, lc, tt, m⟩) (by simp)).cell 1
            go_simp
            exact ⟨rfl, Below.refl _ _⟩
          · obtain rfl : j = 0 := hj
            have hMs : Bs w [(g8, 35, taCells ⟨0, mo, lc, tt, m⟩), (w.heap.size + 1 + 1 + 1, 24, arrC (S)), (w.heap.size + 1 + 1, 24, arrC (S)), (w.heap.size + 1, 33, vsC (V)), (w.heap.size, 29, vsC (V))] W := hMj
            injection ho with ho; subst ho
            refine .inl ⟨wanted_free rfl, ?_⟩
            have h5 : A.tmps[5]?.getD undef = .pointer (some ⟨w.heap.size + 1 + 1, 0, none⟩) := hk 5 (by rfl)
            have c0 := ((hMs.get (g := w.heap.size + 1 + 1) (t := 24) (cs := arrC (S)) (by simp))).cell 0
            have c1 := ((hMs.get (g := w.heap.size + 1 + 1) (t := 24) (cs := arrC (S)) (by simp))).cell 1
            have c2 := ((hMs.get (g := w.heap.size + 1 + 1) (t := 24) (cs := arrC (S)) (by simp))).cell 2
            have c3 := ((hMs.get (g := w.heap.size + 1 + 1) (t := 24) (cs := arrC (S)) (by simp))).cell 3
            go_simp
            exact ⟨rfl, Below.refl _ _⟩
          · obtain rfl : j = 0 := hj
            have hMs : Bs w [(g8, 35, taCells ⟨0, mo, lc, tt, m⟩), (w.heap.size + 1 + 1 + 1, 24, arrC (S)), (w.heap.size + 1 + 1, 24, arrC (S)), (w.heap.size + 1, 33, vsC (V)), (w.heap.size, 29, vsC (V))] W := hMj
            injection ho with ho; subst ho
            refine .inl ⟨wanted_free rfl, ?_⟩
            have h60 : A.tmps[60]?.getD undef = .agg (vsC (V)) := he 0 (by kernel_rfl) (by rfl)
            have h62 : A.tmps[62]?.getD undef = .int .u8 mo := he 2 (by kernel_rfl) (by rfl)
            have h63 : A.tmps[63]?.getD undef = arr (S) := he 3 (by kernel_rfl) (by rfl)
            go_simp
            refine Calls.mono (fence_any V S mo W) ?_
            rintro e' w' ⟨rfl, hb⟩
            exact ⟨_, rfl, rfl, hb⟩
          · injection ho with ho; subst ho
            refine .inl ⟨wanted_free rfl, ?_⟩
            have h64 : A.tmps[64]?.getD undef = .tuple #[.agg (vsC (fenceV V S mo)), arr (fenceS V S mo), .bool (fenceOk mo)] := he 4 (by kernel_rfl) (by rfl)
            go_simp
            exact ⟨rfl, Below.refl _ _⟩
          · injection ho with ho; subst ho
            refine .inl ⟨wanted_free rfl, ?_⟩
            have h59 : A.tmps[59]?.getD undef = .tuple #[.agg (vsC (fenceV V S mo)), arr (fenceS V S mo), .bool (fenceOk mo)] := he 5 (by kernel_rfl) (by rfl)
            go_simp
            exact ⟨rfl, Below.refl _ _⟩
          · injection ho with ho; subst ho
            refine .inl ⟨wanted_free rfl, ?_⟩
            have h59 : A.tmps[59]?.getD undef = .tuple #[.agg (vsC (fenceV V S mo)), arr (fenceS V S mo), .bool (fenceOk mo)] := he 5 (by kernel_rfl) (by rfl)
            go_simp
            exact ⟨rfl, Below.refl _ _⟩
          · injection ho with ho; subst ho
            refine .inl ⟨wanted_free rfl, ?_⟩
            have h59 : A.tmps[59]?.getD undef = .tuple #[.agg (vsC (fenceV V S mo)), arr (fenceS V S mo), .bool (fenceOk mo)] := he 5 (by kernel_rfl) (by rfl)
            go_simp
            exact ⟨rfl, Below.refl _ _⟩
          · exact absurd hc (by decide)
          · exact absurd hc (by decide)
          · injection ho with ho; subst ho
            refine .inl ⟨wanted_free rfl, ?_⟩
            have h67 : A.tmps[67]?.getD undef = .bool (fenceOk mo) := he 8 (by kernel_rfl) (by rfl)
            go_simp
            exact ⟨rfl, Below.refl _ _⟩
        · intro j i o hji ho A W hz hMj hk he
          rcases j with _ | _ | j
          · obtain rfl : 9 = i := Option.some.inj hji
            injection ho with ho; subst ho
            refine .inl ⟨wanted_free rfl, ?_⟩
            have hMs : Bs w [(g8, 35, taCells ⟨0, mo, lc, tt, m⟩), (w.heap.size + 1 + 1 + 1, 24, arrC (S)), (w.heap.size + 1 + 1, 24, arrC (S)), (w.heap.size + 1, 33, vsC (V)), (w.heap.size, 29, vsC (V))] W := hMj
            have h3 : A.tmps[3]?.getD undef = .pointer (some ⟨w.heap.size, 0, none⟩) := hk 3 (by rfl)
            have h65 : A.tmps[65]?.getD undef = .agg (vsC (fenceV V S mo)) := he 6 (by kernel_rfl) (by rfl)
            exact y_store (cells := vsC (fenceV V S mo)) rfl h3 h65 (hMs.get (g := w.heap.size) (t := 29) (cs := vsC (V)) (by simp)) (by rw [vsC_size]; exact vsSize) (by rw [vsC_size, vsC_size]) (vsC_one _) (by have := hgz; omega) (fun _ _ => trivial) (Bs.upd (l1 := [(g8, 35, taCells ⟨0, mo, lc, tt, m⟩), (w.heap.size + 1 + 1 + 1, 24, arrC (S)), (w.heap.size + 1 + 1, 24, arrC (S)), (w.heap.size + 1, 33, vsC (V))]) (l2 := []) hMs (by omega) (by first | (simp; done) | (simp; omega)) (vsC (fenceV V S mo)))
          · obtain rfl : 10 = i := Option.some.inj hji
            injection ho with ho; subst ho
            refine .inl ⟨wanted_free rfl, ?_⟩
            have hMs : Bs w [(g8, 35, taCells ⟨0, mo, lc, tt, m⟩), (w.heap.size + 1 + 1 + 1, 24, arrC (S)), (w.heap.size + 1 + 1, 24, arrC (S)), (w.heap.size + 1, 33, vsC (V)), (w.heap.size, 29, vsC (fenceV V S mo))] W := hMj
            have h5 : A.tmps[5]?.getD undef = .pointer (some ⟨w.heap.size + 1 + 1, 0, none⟩) := hk 5 (by rfl)
            have h66 : A.tmps[66]?.getD undef = arr (fenceS V S mo) := he 7 (by kernel_rfl) (by rfl)
            exact y_store (cells := arrC (fenceS V S mo)) rfl h5 h66 (hMs.get (g := w.heap.size + 1 + 1) (t := 24) (cs := arrC (S)) (by simp)) arrSize rfl (four_one _ _ _ _) (by have := hgz; omega) (fun _ _ => trivial) (Bs.upd (l1 := [(g8, 35, taCells ⟨0, mo, lc, tt, m⟩), (w.heap.size + 1 + 1 + 1, 24, arrC (S))]) (l2 := [(w.heap.size + 1, 33, vsC (V)), (w.heap.size, 29, vsC (fenceV V S mo))]) hMs (by omega) (by first | (simp; done) | (simp; omega)) (arrC (fenceS V S mo)))
          · simp at hji
        · intro xs W hz hMe hV
          have hMe : Bs w [(g8, 35, taCells ⟨0, mo, lc, tt, m⟩), (w.heap.size + 1 + 1 + 1, 24, arrC (S)), (w.heap.size + 1 + 1, 24, arrC (fenceS V S mo)), (w.heap.size + 1, 33, vsC (V)), (w.heap.size, 29, vsC (fenceV V S mo))] W := hMe
          have e9 : xs 11 = .bool (fenceOk mo) := hV 11 (by simp) rfl
          simp only [putM, Act.put, List.setIfInBounds_toArray, List.set_cons_zero, List.set_cons_succ, Nat.zero_add, Nat.reduceAdd, e9]
          clear hV e9
          generalize W = w2 at hMe ⊢
          have HF := Lib.hid hMe
          clear hMe hz HK hgz
          go_upto_region 16 with (fail)
          have hgz : w.heap.size + 4 ≤ w2.heap.size ∧ g8 < w2.heap.size := by
            have h1 := ((HF.out.get (g := g8) (t := 35) (cs := taCells ⟨0, mo, lc, tt, m⟩) (by simp))).lt
            omega
          refine wp_flowS1 [some 69, some 70, some 71, some 72, some 73, some 68, some 74, some 75, some 76, none, none, some 10] [9, 10] [0, 0, 0, 0, 0, 0, 0, 0, 0, 0, 0, 2] [eqV (.agg (vsC (V))), eqV (.pointer (some ⟨g8, 1, none⟩)), eqV (.int .u8 mo), eqV (arr (S)), eqV (.tuple #[.agg (vsC (fenceV V S mo)), arr (fenceS V S mo), .bool (fenceOk mo)]), eqV (.tuple #[.agg (vsC (fenceV V S mo)), arr (fenceS V S mo), .bool (fenceOk mo)]), eqV (.agg (vsC (fenceV V S mo))), eqV (arr (fenceS V S mo)), eqV (.bool (fenceOk mo)), fun _ _ => True, fun _ _ => True, eqV (.bool (fenceOk mo))] (fun j W => match j with | 0 => Bs w [(g8, 35, taCells ⟨0, mo, lc, tt, m⟩), (w.heap.size + 1 + 1 + 1, 24, arrC (S)), (w.heap.size + 1 + 1, 24, arrC (fenceS V S mo)), (w.heap.size + 1, 33, vsC (V)), (w.heap.size, 29, vsC (fenceV V S mo))] W | 1 => Bs w [(g8, 35, taCells ⟨0, mo, lc, tt, m⟩), (w.heap.size + 1 + 1 + 1, 24, arrC (S)), (w.heap.size + 1 + 1, 24, arrC (fenceS V S mo)), (w.heap.size + 1, 33, vsC (fenceV V S mo)), (w.heap.size, 29, vsC (fenceV V S mo))] W | _ => Bs w [(g8, 35, taCells ⟨0, mo, lc, tt, m⟩), (w.heap.size + 1 + 1 + 1, 24, arrC (fenceS V S mo)), (w.heap.size + 1 + 1, 24, arrC (fenceS V S mo)), (w.heap.size + 1, 33, vsC (fenceV V S mo)), (w.heap.size, 29, vsC (fenceV V S mo))] W) (by kernel_rfl) (by kernel_rfl) (by kernel_rfl) (by rfl)
            (by simp only [List.mem_cons, List.not_mem_nil, or_false, forall_eq_or_imp, forall_eq]; refine ⟨?_, ?_, ?_, ?_, ?_, ?_, ?_, ?_, ?_, ?_, ?_, ?_⟩ <;> (first | exact eqV_monoB _ _ | exact rowB_mono _ _ _ _ | exact true_monoB _))
            (fun j W W' h hb => by rcases j with _ | _ | j <;> first | exact (Bs.grown h hb)) (HF.out) ?_ ?_ ?_
          · intro i o hi ho hc j A W hj hz hMj hk he
            simp only [List.length_cons, List.length_nil, Nat.zero_add, Nat.reduceAdd] at hi
            obtain rfl | rfl | rfl | rfl | rfl | rfl | rfl | rfl | rfl | rfl | rfl | rfl : i = 0 ∨ i = 1 ∨ i = 2 ∨ i = 3 ∨ i = 4 ∨ i = 5 ∨ i = 6 ∨ i = 7 ∨ i = 8 ∨ i = 9 ∨ i = 10 ∨ i = 11 := by omega
            · obtain rfl : j = 0 := hj
              have hMs : Bs w [(g8, 35, taCells ⟨0, mo, lc, tt, m⟩), (w.heap.size + 1 + 1 + 1, 24, arrC (S)), (w.heap.size + 1 + 1, 24, arrC (fenceS V S mo)), (w.heap.size + 1, 33, vsC (V)), (w.heap.size, 29, vsC (fenceV V S mo))] W := hMj
              injection ho with ho; subst ho
              refine .inl ⟨wanted_free rfl, ?_⟩
              have h4 : A.tmps[4]?.getD undef = .pointer (some ⟨w.heap.size + 1, 0, none⟩) := hk 4 (by rfl)
              exact y_load (cs := vsC (V)) rfl h4 (sits_range ((hMs.get (g := w.heap.size + 1) (t := 33) (cs := vsC (V)) (by simp)))) Try.underlying33 rfl rsSize
            · injection ho with ho; subst ho
              refine .inl ⟨wanted_free rfl, ?_⟩
              have h8 : A.tmps[8]?.getD undef = .pointer (some ⟨g8, 0, none⟩) := hk 8 (by rfl)
              go_simp
              exact ⟨rfl, Below.refl _ _⟩
            · obtain rfl : j = 0 := hj
              have hMs : Bs w [(g8, 35, taCells ⟨0, mo, lc, tt, m⟩), (w.heap.size + 1 + 1 + 1, 24, arrC (S)), (w.heap.size + 1 + 1, 24, arrC (fenceS V S mo)), (w.heap.size + 1, 33, vsC (V)), (w.heap.size, 29, vsC (fenceV V S mo))] W := hMj
              injection ho with ho; subst ho
              refine .inl ⟨wanted_free rfl, ?_⟩
              have h70 : A.tmps[70]?.getD undef = .pointer (some ⟨g8, 1, none⟩) := he 1 (by kernel_rfl) (by rfl)
              have c0 := (hMs.get (g := g8) (t := 35) (cs := taCells ⟨0, mo, lc, tt, m⟩) (by simp)).cell 1
              go_simp
              exact ⟨rfl, Below.refl _ _⟩
            · obtain rfl : j = 0 := hj
              have hMs : Bs w [(g8, 35, taCells ⟨0, mo, lc, tt, m⟩), (w.heap.size + 1 + 1 + 1, 24, arrC (S)), (w.heap.size + 1 + 1, 24, arrC (fenceS V S mo)), (w.heap.size + 1, 33, vsC (V)), (w.heap.size, 29, vsC (fenceV V S mo))] W := hMj
              injection ho with ho; subst ho
              refine .inl ⟨wanted_free rfl, ?_⟩
              have h6 : A.tmps[6]?.getD undef = .pointer (some ⟨w.heap.size + 1 + 1 + 1, 0, none⟩) := hk 6 (by rfl)
              have c0 := ((hMs.get (g := w.heap.size + 1 + 1 + 1) (t := 24) (cs := arrC (S)) (by simp))).cell 0
              have c1 := ((hMs.get (g := w.heap.size + 1 + 1 + 1) (t := 24) (cs := arrC (S)) (by simp))).cell 1
              have c2 := ((hMs.get (g := w.heap.size + 1 + 1 + 1) (t := 24) (cs := arrC (S)) (by simp))).cell 2
              have c3 := ((hMs.get (g := w.heap.size + 1 + 1 + 1) (t := 24) (cs := arrC (S)) (by simp))).cell 3
              go_simp
              exact ⟨rfl, Below.refl _ _⟩
            · obtain rfl : j = 0 := hj
              have hMs : Bs w [(g8, 35, taCells ⟨0, mo, lc, tt, m⟩), (w.heap.size + 1 + 1 + 1, 24, arrC (S)), (w.heap.size + 1 + 1, 24, arrC (fenceS V S mo)), (w.heap.size + 1, 33, vsC (V)), (w.heap.size, 29, vsC (fenceV V S mo))] W := hMj
              injection ho with ho; subst ho
              refine .inl ⟨wanted_free rfl, ?_⟩
              have h69 : A.tmps[69]?.getD undef = .agg (vsC (V)) := he 0 (by kernel_rfl) (by rfl)
              have h71 : A.tmps[71]?.getD undef = .int .u8 mo := he 2 (by kernel_rfl) (by rfl)
              have h72 : A.tmps[72]?.getD undef = arr (S) := he 3 (by kernel_rfl) (by rfl)
              go_simp
              refine Calls.mono (dfence_any V S mo W) ?_
              rintro e' w' ⟨rfl, hb⟩
              exact ⟨_, rfl, rfl, hb⟩
            · injection ho with ho; subst ho
              refine .inl ⟨wanted_free rfl, ?_⟩
              have h73 : A.tmps[73]?.getD undef = .tuple #[.agg (vsC (fenceV V S mo)), arr (fenceS V S mo), .bool (fenceOk mo)] := he 4 (by kernel_rfl) (by rfl)
              go_simp
              exact ⟨rfl, Below.refl _ _⟩
            · injection ho with ho; subst ho
              refine .inl ⟨wanted_free rfl, ?_⟩
              have h68 : A.tmps[68]?.getD undef = .tuple #[.agg (vsC (fenceV V S mo)), arr (fenceS V S mo), .bool (fenceOk mo)] := he 5 (by kernel_rfl) (by rfl)
              go_simp
              exact ⟨rfl, Below.refl _ _⟩
            · injection ho with ho; subst ho
              refine .inl ⟨wanted_free rfl, ?_⟩
              have h68 : A.tmps[68]?.getD undef = .tuple #[.agg (vsC (fenceV V S mo)), arr (fenceS V S mo), .bool (fenceOk mo)] := he 5 (by kernel_rfl) (by rfl)
              go_simp
              exact ⟨rfl, Below.refl _ _⟩
            · injection ho with ho; subst ho
              refine .inl ⟨wanted_free rfl, ?_⟩
              have h68 : A.tmps[68]?.getD undef = .tuple #[.agg (vsC (fenceV V S mo)), arr (fenceS V S mo), .bool (fenceOk mo)] := he 5 (by kernel_rfl) (by rfl)
              go_simp
              exact ⟨rfl, Below.refl _ _⟩
            · exact absurd hc (by decide)
            · exact absurd hc (by decide)
            · injection ho with ho; subst ho
              refine .inl ⟨wanted_free rfl, ?_⟩
              have h76 : A.tmps[76]?.getD undef = .bool (fenceOk mo) := he 8 (by kernel_rfl) (by rfl)
              go_simp
              exact ⟨rfl, Below.refl _ _⟩
          · intro j i o hji ho A W hz hMj hk he
            rcases j with _ | _ | j
            · obtain rfl : 9 = i := Option.some.inj hji
              injection ho with ho; subst ho
              refine .inl ⟨wanted_free rfl, ?_⟩
              have hMs : Bs w [(g8, 35, taCells ⟨0, mo, lc, tt, m⟩), (w.heap.size + 1 + 1 + 1, 24, arrC (S)), (w.heap.size + 1 + 1, 24, arrC (fenceS V S mo)), (w.heap.size + 1, 33, vsC (V)), (w.heap.size, 29, vsC (fenceV V S mo))] W := hMj
              have h4 : A.tmps[4]?.getD undef = .pointer (some ⟨w.heap.size + 1, 0, none⟩) := hk 4 (by rfl)
              have h74 : A.tmps[74]?.getD undef = .agg (vsC (fenceV V S mo)) := he 6 (by kernel_rfl) (by rfl)
              exact y_store (cells := vsC (fenceV V S mo)) rfl h4 h74 (hMs.get (g := w.heap.size + 1) (t := 33) (cs := vsC (V)) (by simp)) (by rw [vsC_size]; exact rsSize) (by rw [vsC_size, vsC_size]) (vsC_one _) (by have := hgz; omega) (fun _ _ => trivial) (Bs.upd (l1 := [(g8, 35, taCells ⟨0, mo, lc, tt, m⟩), (w.heap.size + 1 + 1 + 1, 24, arrC (S)), (w.heap.size + 1 + 1, 24, arrC (fenceS V S mo))]) (l2 := [(w.heap.size, 29, vsC (fenceV V S mo))]) hMs (by omega) (by first | (simp; done) | (simp; omega)) (vsC (fenceV V S mo)))
            · obtain rfl : 10 = i := Option.some.inj hji
              injection ho with ho; subst ho
              refine .inl ⟨wanted_free rfl, ?_⟩
              have hMs : Bs w [(g8, 35, taCells ⟨0, mo, lc, tt, m⟩), (w.heap.size + 1 + 1 + 1, 24, arrC (S)), (w.heap.size + 1 + 1, 24, arrC (fenceS V S mo)), (w.heap.size + 1, 33, vsC (fenceV V S mo)), (w.heap.size, 29, vsC (fenceV V S mo))] W := hMj
              have h6 : A.tmps[6]?.getD undef = .pointer (some ⟨w.heap.size + 1 + 1 + 1, 0, none⟩) := hk 6 (by rfl)
              have h75 : A.tmps[75]?.getD undef = arr (fenceS V S mo) := he 7 (by kernel_rfl) (by rfl)
              exact y_store (cells := arrC (fenceS V S mo)) rfl h6 h75 (hMs.get (g := w.heap.size + 1 + 1 + 1) (t := 24) (cs := arrC (S)) (by simp)) arrSize rfl (four_one _ _ _ _) (by have := hgz; omega) (fun _ _ => trivial) (Bs.upd (l1 := [(g8, 35, taCells ⟨0, mo, lc, tt, m⟩)]) (l2 := [(w.heap.size + 1 + 1, 24, arrC (fenceS V S mo)), (w.heap.size + 1, 33, vsC (fenceV V S mo)), (w.heap.size, 29, vsC (fenceV V S mo))]) hMs (by omega) (by first | (simp; done) | (simp; omega)) (arrC (fenceS V S mo)))
            · simp at hji
          · intro xs W hz hMe hV
            have hMe : Bs w [(g8, 35, taCells ⟨0, mo, lc, tt, m⟩), (w.heap.size + 1 + 1 + 1, 24, arrC (fenceS V S mo)), (w.heap.size + 1 + 1, 24, arrC (fenceS V S mo)), (w.heap.size + 1, 33, vsC (fenceV V S mo)), (w.heap.size, 29, vsC (fenceV V S mo))] W := hMe
            have e10 : xs 11 = .bool (fenceOk mo) := hV 11 (by simp) rfl
            simp only [putM, Act.put, List.setIfInBounds_toArray, List.set_cons_zero, List.set_cons_succ, Nat.zero_add, Nat.reduceAdd, e10]
            clear hV e10
            generalize W = w3 at hMe ⊢
            have HG := Lib.hid hMe
            clear hMe hz HF hgz
            generalize fenceOk mo = ok
            go_upto_region 24 with (fail)
            have HQ1 : Hid (∀ W, (binOp .neq 29 (.agg (vsC (fenceV V S mo))) (.agg (vsC (fenceV V S mo)))).run Try.prog W = .ok (.bool false) W) := Lib.hid (fun W => by have h := neq_vs (fenceV V S mo) (fenceV V S mo) W; rw [sameV_self] at h; exact h)
            have HQ2 : Hid (∀ W, (binOp .neq 24 (arr (fenceS V S mo)) (arr (fenceS V S mo))).run Try.prog W = .ok (.bool false) W) := Lib.hid (fun W => by have h := neq_arr (fenceS V S mo) (fenceS V S mo) W; rw [same_self] at h; exact h)
            refine wp_flowM [some 112, some 113, some 114, some 115, some 116, some 117, some 118, some 119, some 120, some 121, some 122, some 123, some 124, some 125] [] [0, 0, 0, 0, 0, 0, 0, 0, 0, 0, 0, 0, 0, 0] [eqV (.bool ok), eqV (.bool ok), eqV (.bool false), eqV (.bool false), eqV (.agg (vsC (fenceV V S mo))), eqV (.agg (vsC (fenceV V S mo))), eqV (.agg (vsC (fenceV V S mo))), eqV (.bool false), eqV (.bool false), eqV (.bool false), eqV (arr (fenceS V S mo)), eqV (arr (fenceS V S mo)), eqV (.bool false), eqV (.bool false)] (fun _ W => Bs w [(g8, 35, taCells ⟨0, mo, lc, tt, m⟩), (w.heap.size + 1 + 1 + 1, 24, arrC (fenceS V S mo)), (w.heap.size + 1 + 1, 24, arrC (fenceS V S mo)), (w.heap.size + 1, 33, vsC (fenceV V S mo)), (w.heap.size, 29, vsC (fenceV V S mo))] W) (by kernel_rfl) (by kernel_rfl) (by kernel_rfl) (by rfl)
              (by simp only [List.mem_cons, List.not_mem_nil, or_false, forall_eq_or_imp, forall_eq]; refine ⟨?_, ?_, ?_, ?_, ?_, ?_, ?_, ?_, ?_, ?_, ?_, ?_, ?_, ?_⟩ <;> (first | exact eqV_monoB _ _ | exact rowB_mono _ _ _ _ | exact true_monoB _))
              (fun j W W' h hb => by exact (Bs.grown h hb)) (HG.out) ?_ ?_ ?_
            · intro i o hi ho hc j A W hj hz hMj hk he
              simp only [List.length_cons, List.length_nil, Nat.zero_add, Nat.reduceAdd] at hi
              obtain rfl | rfl | rfl | rfl | rfl | rfl | rfl | rfl | rfl | rfl | rfl | rfl | rfl | rfl : i = 0 ∨ i = 1 ∨ i = 2 ∨ i = 3 ∨ i = 4 ∨ i = 5 ∨ i = 6 ∨ i = 7 ∨ i = 8 ∨ i = 9 ∨ i = 10 ∨ i = 11 ∨ i = 12 ∨ i = 13 := by omega
              · injection ho with ho; subst ho
                refine .inl ⟨wanted_free rfl, ?_⟩
                have h9 : A.tmps[9]?.getD undef = .bool ok := hk 9 (by rfl)
                go_simp
                exact ⟨rfl, Below.refl _ _⟩
              · injection ho with ho; subst ho
                refine .inl ⟨wanted_free rfl, ?_⟩
                have h10 : A.tmps[10]?.getD undef = .bool ok := hk 10 (by rfl)
                go_simp
                exact ⟨rfl, Below.refl _ _⟩
              · injection ho with ho; subst ho
                refine .inl ⟨wanted_free rfl, ?_⟩
                have h112 : A.tmps[112]?.getD undef = .bool ok := he 0 (by kernel_rfl) (by rfl)
                have h113 : A.tmps[113]?.getD undef = .bool ok := he 1 (by kernel_rfl) (by rfl)
                go_simp
                exact ⟨rfl, Below.refl _ _⟩
              · injection ho with ho; subst ho
                refine .inl ⟨wanted_free rfl, ?_⟩
                have h114 : A.tmps[114]?.getD undef = .bool false := he 2 (by kernel_rfl) (by rfl)
                go_simp
                exact ⟨rfl, Below.refl _ _⟩
              · obtain rfl : j = 0 := Nat.le_zero.1 hj
                have hMs : Bs w [(g8, 35, taCells ⟨0, mo, lc, tt, m⟩), (w.heap.size + 1 + 1 + 1, 24, arrC (fenceS V S mo)), (w.heap.size + 1 + 1, 24, arrC (fenceS V S mo)), (w.heap.size + 1, 33, vsC (fenceV V S mo)), (w.heap.size, 29, vsC (fenceV V S mo))] W := hMj
                injection ho with ho; subst ho
                have hg : A.tmps[115]?.getD undef = .bool false := he 3 (by kernel_rfl) (by rfl)
                refine .inl ⟨wanted_yes (d := 115) rfl (by kernel_rfl) hg, ?_⟩
                have h3 : A.tmps[3]?.getD undef = .pointer (some ⟨w.heap.size, 0, none⟩) := hk 3 (by rfl)
                exact y_load (cs := vsC (fenceV V S mo)) rfl h3 (sits_range ((hMs.get (g := w.heap.size) (t := 29) (cs := vsC (fenceV V S mo)) (by simp)))) Try.underlying29 rfl vsSize
              · obtain rfl : j = 0 := Nat.le_zero.1 hj
                have hMs : Bs w [(g8, 35, taCells ⟨0, mo, lc, tt, m⟩), (w.heap.size + 1 + 1 + 1, 24, arrC (fenceS V S mo)), (w.heap.size + 1 + 1, 24, arrC (fenceS V S mo)), (w.heap.size + 1, 33, vsC (fenceV V S mo)), (w.heap.size, 29, vsC (fenceV V S mo))] W := hMj
                injection ho with ho; subst ho
                have hg : A.tmps[115]?.getD undef = .bool false := he 3 (by kernel_rfl) (by rfl)
                refine .inl ⟨wanted_yes (d := 115) rfl (by kernel_rfl) hg, ?_⟩
                have h4 : A.tmps[4]?.getD undef = .pointer (some ⟨w.heap.size + 1, 0, none⟩) := hk 4 (by rfl)
                exact y_load (cs := vsC (fenceV V S mo)) rfl h4 (sits_range ((hMs.get (g := w.heap.size + 1) (t := 33) (cs := vsC (fenceV V S mo)) (by simp)))) Try.underlying33 rfl rsSize
              · obtain rfl : j = 0 := Nat.le_zero.1 hj
                have hMs : Bs w [(g8, 35, taCells ⟨0, mo, lc, tt, m⟩), (w.heap.size + 1 + 1 + 1, 24, arrC (fenceS V S mo)), (w.heap.size + 1 + 1, 24, arrC (fenceS V S mo)), (w.heap.size + 1, 33, vsC (fenceV V S mo)), (w.heap.size, 29, vsC (fenceV V S mo))] W := hMj
                injection ho with ho; subst ho
                have hg : A.tmps[115]?.getD undef = .bool false := he 3 (by kernel_rfl) (by rfl)
                refine .inl ⟨wanted_yes (d := 115) rfl (by kernel_rfl) hg, ?_⟩
                have h117 : A.tmps[117]?.getD undef = .agg (vsC (fenceV V S mo)) := he 5 (by kernel_rfl) (by rfl)
                go_simp
                refine Calls.mono (of_any (fenceV V S mo) W) ?_
                rintro e' w' ⟨rfl, hb⟩
                exact ⟨_, rfl, rfl, hb⟩
              · injection ho with ho; subst ho
                have hg : A.tmps[115]?.getD undef = .bool false := he 3 (by kernel_rfl) (by rfl)
                refine .inl ⟨wanted_yes (d := 115) rfl (by kernel_rfl) hg, ?_⟩
                have h116 : A.tmps[116]?.getD undef = .agg (vsC (fenceV V S mo)) := he 4 (by kernel_rfl) (by rfl)
                have h118 : A.tmps[118]?.getD undef = .agg (vsC (fenceV V S mo)) := he 6 (by kernel_rfl) (by rfl)
                have hq := HQ1.out W
                have hgd : ∀ x y, (eqGuard .neq 29 x y (Value.agg (vsC (fenceV V S mo))) (Value.agg (vsC (fenceV V S mo)))).run Try.prog W = .ok () W := fun x y => guard_vs .neq x y (fenceV V S mo) (fenceV V S mo) W
                generalize Value.agg (vsC (fenceV V S mo)) = X at h116 h118 hq hgd
                go_simp
                exact ⟨rfl, Below.refl _ _⟩
              · injection ho with ho; subst ho
                refine .inl ⟨wanted_free rfl, ?_⟩
                have h115 : A.tmps[115]?.getD undef = .bool false := he 3 (by kernel_rfl) (by rfl)
                have h119 : A.tmps[119]?.getD undef = .bool false := he 7 (by kernel_rfl) (by rfl)
                go_simp
                exact ⟨rfl, Below.refl _ _⟩
              · injection ho with ho; subst ho
                refine .inl ⟨wanted_free rfl, ?_⟩
                have h120 : A.tmps[120]?.getD undef = .bool false := he 8 (by kernel_rfl) (by rfl)
                go_simp
                exact ⟨rfl, Below.refl _ _⟩
              · obtain rfl : j = 0 := Nat.le_zero.1 hj
                have hMs : Bs w [(g8, 35, taCells ⟨0, mo, lc, tt, m⟩), (w.heap.size + 1 + 1 + 1, 24, arrC (fenceS V S mo)), (w.heap.size + 1 + 1, 24, arrC (fenceS V S mo)), (w.heap.size + 1, 33, vsC (fenceV V S mo)), (w.heap.size, 29, vsC (fenceV V S mo))] W := hMj
                injection ho with ho; subst ho
                have hg : A.tmps[121]?.getD undef = .bool false := he 9 (by kernel_rfl) (by rfl)
                refine .inl ⟨wanted_yes (d := 121) rfl (by kernel_rfl) hg, ?_⟩
                have h5 : A.tmps[5]?.getD undef = .pointer (some ⟨w.heap.size + 1 + 1, 0, none⟩) := hk 5 (by rfl)
                have c0 := ((hMs.get (g := w.heap.size + 1 + 1) (t := 24) (cs := arrC (fenceS V S mo)) (by simp))).cell 0
                have c1 := ((hMs.get (g := w.heap.size + 1 + 1) (t := 24) (cs := arrC (fenceS V S mo)) (by simp))).cell 1
                have c2 := ((hMs.get (g := w.heap.size + 1 + 1) (t := 24) (cs := arrC (fenceS V S mo)) (by simp))).cell 2
                have c3 := ((hMs.get (g := w.heap.size + 1 + 1) (t := 24) (cs := arrC (fenceS V S mo)) (by simp))).cell 3
                go_simp
                exact ⟨rfl, Below.refl _ _⟩
              · obtain rfl : j = 0 := Nat.le_zero.1 hj
                have hMs : Bs w [(g8, 35, taCells ⟨0, mo, lc, tt, m⟩), (w.heap.size + 1 + 1 + 1, 24, arrC (fenceS V S mo)), (w.heap.size + 1 + 1, 24, arrC (fenceS V S mo)), (w.heap.size + 1, 33, vsC (fenceV V S mo)), (w.heap.size, 29, vsC (fenceV V S mo))] W := hMj
                injection ho with ho; subst ho
                have hg : A.tmps[121]?.getD undef = .bool false := he 9 (by kernel_rfl) (by rfl)
                refine .inl ⟨wanted_yes (d := 121) rfl (by kernel_rfl) hg, ?_⟩
                have h6 : A.tmps[6]?.getD undef = .pointer (some ⟨w.heap.size + 1 + 1 + 1, 0, none⟩) := hk 6 (by rfl)
                have c0 := ((hMs.get (g := w.heap.size + 1 + 1 + 1) (t := 24) (cs := arrC (fenceS V S mo)) (by simp))).cell 0
                have c1 := ((hMs.get (g := w.heap.size + 1 + 1 + 1) (t := 24) (cs := arrC (fenceS V S mo)) (by simp))).cell 1
                have c2 := ((hMs.get (g := w.heap.size + 1 + 1 + 1) (t := 24) (cs := arrC (fenceS V S mo)) (by simp))).cell 2
                have c3 := ((hMs.get (g := w.heap.size + 1 + 1 + 1) (t := 24) (cs := arrC (fenceS V S mo)) (by simp))).cell 3
                go_simp
                exact ⟨rfl, Below.refl _ _⟩
              · injection ho with ho; subst ho
                have hg : A.tmps[121]?.getD undef = .bool false := he 9 (by kernel_rfl) (by rfl)
                refine .inl ⟨wanted_yes (d := 121) rfl (by kernel_rfl) hg, ?_⟩
                have h122 : A.tmps[122]?.getD undef = arr (fenceS V S mo) := he 10 (by kernel_rfl) (by rfl)
                have h123 : A.tmps[123]?.getD undef = arr (fenceS V S mo) := he 11 (by kernel_rfl) (by rfl)
                have hq := HQ2.out W
                have hgd : ∀ x y, (eqGuard .neq 24 x y (arr (fenceS V S mo)) (arr (fenceS V S mo))).run Try.prog W = .ok () W := fun x y => guard_arr .neq x y (fenceS V S mo) (fenceS V S mo) W
                generalize arr (fenceS V S mo) = X at h122 h123 hq hgd
                go_simp
                exact ⟨rfl, Below.refl _ _⟩
              · injection ho with ho; subst ho
                refine .inl ⟨wanted_free rfl, ?_⟩
                have h121 : A.tmps[121]?.getD undef = .bool false := he 9 (by kernel_rfl) (by rfl)
                have h124 : A.tmps[124]?.getD undef = .bool false := he 12 (by kernel_rfl) (by rfl)
                go_simp
                exact ⟨rfl, Below.refl _ _⟩
            · intro j i o hji ho A W hz hMj hk he
              simp at hji
            · intro xs W hz hMe hV
              have hMe : Bs w [(g8, 35, taCells ⟨0, mo, lc, tt, m⟩), (w.heap.size + 1 + 1 + 1, 24, arrC (fenceS V S mo)), (w.heap.size + 1 + 1, 24, arrC (fenceS V S mo)), (w.heap.size + 1, 33, vsC (fenceV V S mo)), (w.heap.size, 29, vsC (fenceV V S mo))] W := hMe
              have e125 : xs 13 = .bool false := hV 13 (by simp) rfl
              simp only [putM, Act.put, List.setIfInBounds_toArray, List.set_cons_zero, List.set_cons_succ, Nat.zero_add, Nat.reduceAdd, e125]
              clear hV e125
              generalize W = w9 at hMe ⊢
              have HE := Lib.hid (hMe.mono (l' := [(w.heap.size + 1 + 1 + 1, 24, arrC (fenceS V S mo)), (w.heap.size + 1 + 1, 24, arrC (fenceS V S mo)), (w.heap.size + 1, 33, vsC (fenceV V S mo)), (w.heap.size, 29, vsC (fenceV V S mo))]) (fun p hp => List.mem_append_right [(g8, 35, taCells ⟨0, mo, lc, tt, m⟩)] hp))
              clear hMe hz HG HQ1 HQ2
              go_wp2_with fail
              go_roundg (l.length - (i + 1))
              case measure => have := HL.out; omega
              case rel => exact ⟨i + 1, fenceV V S mo, fenceS V S mo, by have := HL.out; omega, rfl, by go_num, Lib.hid ⟨HE.out, nn_fence HN.out S mo⟩⟩
      by_cases h2 : d = 1
      ·
        subst h2
        go_upto_region 20 with (fail)
        clear c0 h0
        have hg11 : g8 < w1.heap.size := ((HK.out.get (g := g8) (t := 35) (cs := taCells ⟨1, mo, lc, tt, m⟩) (by simp))).lt
        have HW : Hid (Bs w [(w1.heap.size + 1, 30, vwC (zeroF)), (w1.heap.size, 26, vwC (zeroF)), (g8, 35, taCells ⟨1, mo, lc, tt, m⟩), (w.heap.size + 1 + 1 + 1, 24, arrC (S)), (w.heap.size + 1 + 1, 24, arrC (S)), (w.heap.size + 1, 33, vsC (V)), (w.heap.size, 29, vsC (V))] ((w1.alloc (.cells zero8 26)).alloc (.cells zero8 30))) := Lib.hid (by
          have h := (HK.out.new 26 zero8).new 30 zero8
          simp only [World.size_alloc] at h
          exact h)
        generalize (w1.alloc (.cells zero8 26)).alloc (.cells zero8 30) = w2 at HW ⊢
        generalize w1.heap.size = g11 at HW hg11 ⊢
        clear HK
        have HD : Hid (∀ W, Calls Try.prog 10 #[.agg (vsC V), .int .i64 lc, .int .i64 tt, .int .u8 mo, .agg (vwC m)] W (Made (.returned (.tuple #[.agg (vsC (writeV V lc tt mo)), .agg (vwC (writeM V lc tt mo m)), .bool (writeOk V lc tt mo)])) W)) := Lib.hid (fun W => by
          have h := dwrite_any V lc tt mo m W
          rwa [write_same HN.out, msg_same HN.out] at h)
        have hgz : w.heap.size + 4 ≤ w2.heap.size ∧ g11 + 1 < w2.heap.size := by
          have h1 := ((HW.out.get (g := g11 + 1) (t := 30) (cs := vwC (zeroF)) (by simp))).lt
          omega
        refine wp_flowM [some 80, some 81, some 82, some 83, some 84, some 85, some 86, some 87, some 88, some 89, some 90, some 79, some 91, some 92, some 93, none, none, some 9] [15, 16] [0, 0, 0, 0, 0, 0, 0, 0, 0, 0, 0, 0, 0, 1, 2, 0, 0, 2] [eqV (.agg (vsC (V))), eqV (.pointer (some ⟨g8, 2, none⟩)), eqV (.int .i64 lc), eqV (.pointer (some ⟨g8, 3, none⟩)), eqV (.int .i64 tt), eqV (.pointer (some ⟨g8, 1, none⟩)), eqV (.int .u8 mo), eqV (.pointer (some ⟨g8, 4, none⟩)), eqV (.agg (vwC (m))), eqV (.agg (vwC (m))), eqV (.tuple #[.agg (vsC (writeV V lc tt mo)), .agg (vwC (writeM V lc tt mo m)), .bool (writeOk V lc tt mo)]), eqV (.tuple #[.agg (vsC (writeV V lc tt mo)), .agg (vwC (writeM V lc tt mo m)), .bool (writeOk V lc tt mo)]), eqV (.agg (vsC (writeV V lc tt mo))), eqV (.agg (vwC (writeM V lc tt mo m))), eqV (.bool (writeOk V lc tt mo)), fun _ _ => True, fun _ _ => True, eqV (.bool (writeOk V lc tt mo))] (fun j W => match j with | 0 => Bs w [(g11 + 1, 30, vwC (zeroF)), (g11, 26, vwC (zeroF)), (g8, 35, taCells ⟨1, mo, lc, tt, m⟩), (w.heap.size + 1 + 1 + 1, 24, arrC (S)), (w.heap.size + 1 + 1, 24, arrC (S)), (w.heap.size + 1, 33, vsC (V)), (w.heap.size, 29, vsC (V))] W | 1 => Bs w [(g11 + 1, 30, vwC (zeroF)), (g11, 26, vwC (zeroF)), (g8, 35, taCells ⟨1, mo, lc, tt, m⟩), (w.heap.size + 1 + 1 + 1, 24, arrC (S)), (w.heap.size + 1 + 1, 24, arrC (S)), (w.heap.size + 1, 33, vsC (V)), (w.heap.size, 29, vsC (writeV V lc tt mo))] W | _ => Bs w [(g11 + 1, 30, vwC (zeroF)), (g11, 26, vwC (writeM V lc tt mo m)), (g8, 35, taCells ⟨1, mo, lc, tt, m⟩), (w.heap.size + 1 + 1 + 1, 24, arrC (S)), (w.heap.size + 1 + 1, 24, arrC (S)), (w.heap.size + 1, 33, vsC (V)), (w.heap.size, 29, vsC (writeV V lc tt mo))] W) (by kernel_rfl) (by kernel_rfl) (by kernel_rfl) (by rfl)
          (by simp only [List.mem_cons, List.not_mem_nil, or_false, forall_eq_or_imp, forall_eq]; refine ⟨?_, ?_, ?_, ?_, ?_, ?_, ?_, ?_, ?_, ?_, ?_, ?_, ?_, ?_, ?_, ?_, ?_, ?_⟩ <;> (first | exact eqV_monoB _ _ | exact rowB_mono _ _ _ _ | exact true_monoB _))
          (fun j W W' h hb => by rcases j with _ | _ | j <;> first | exact (Bs.grown h hb)) (HW.out) ?_ ?_ ?_
        · intro i o hi ho hc j A W hj hz hMj hk he
          simp only [List.length_cons, List.length_nil, Nat.zero_add, Nat.reduceAdd] at hi
          obtain rfl | rfl | rfl | rfl | rfl | rfl | rfl | rfl | rfl | rfl | rfl | rfl | rfl | rfl | rfl | rfl | rfl | rfl : i = 0 ∨ i = 1 ∨ i = 2 ∨ i = 3 ∨ i = 4 ∨ i = 5 ∨ i = 6 ∨ i = 7 ∨ i = 8 ∨ i = 9 ∨ i = 10 ∨ i = 11 ∨ i = 12 ∨ i = 13 ∨ i = 14 ∨ i = 15 ∨ i = 16 ∨ i = 17 := by omega
          · obtain rfl : j = 0 := Nat.le_zero.1 hj
            have hMs : Bs w [(g11 + 1, 30, vwC (zeroF)), (g11, 26, vwC (zeroF)), (g8, 35, taCells ⟨1, mo, lc, tt, m⟩), (w.heap.size + 1 + 1 + 1, 24, arrC (S)), (w.heap.size + 1 + 1, 24, arrC (S)), (w.heap.size + 1, 33, vsC (V)), (w.heap.size, 29, vsC (V))] W := hMj
            injection ho with ho; subst ho
            refine .inl ⟨wanted_free rfl, ?_⟩
            have h3 : A.tmps[3]?.getD undef = .pointer (some ⟨w.heap.size, 0, none⟩) := hk 3 (by rfl)
            exact y_load (cs := vsC (V)) rfl h3 (sits_range ((hMs.get (g := w.heap.size) (t := 29) (cs := vsC (V)) (by simp)))) Try.underlying29 rfl vsSize
          · injection ho with ho; subst ho
            refine .inl ⟨wanted_free rfl, ?_⟩
            have h8 : A.tmps[8]?.getD undef = .pointer (some ⟨g8, 0, none⟩) := hk 8 (by rfl)
            go_simp
            exact ⟨rfl, Below.refl _ _⟩
          · obtain rfl : j = 0 := Nat.le_zero.1 hj
            have hMs : Bs w [(g11 + 1, 30, vwC (zeroF)), (g11, 26, vwC (zeroF)), (g8, 35, taCells ⟨1, mo, lc, tt, m⟩), (w.heap.size + 1 + 1 + 1, 24, arrC (S)), (w.heap.size + 1 + 1, 24, arrC (S)), (w.heap.size + 1, 33, vsC (V)), (w.heap.size, 29, vsC (V))] W := hMj
            injection ho with ho; subst ho
            refine .inl ⟨wanted_free rfl, ?_⟩
            have h81 : A.tmps[81]?.getD undef = .pointer (some ⟨g8, 2, none⟩) := he 1 (by kernel_rfl) (by rfl)
            have c0 := (hMs.get (g := g8) (t := 35) (cs := taCells ⟨1, mo, lc, tt, m⟩) (by simp)).cell 2
            go_simp
            exact ⟨rfl, Below.refl _ _⟩
          · injection ho with ho; subst ho
            refine .inl ⟨wanted_free rfl, ?_⟩
            have h8 : A.tmps[8]?.getD undef = .pointer (some ⟨g8, 0, none⟩) := hk 8 (by rfl)
            go_simp
            exact ⟨rfl, Below.refl _ _⟩
          · obtain rfl : j = 0 := Nat.le_zero.1 hj
            have hMs : Bs w [(g11 + 1, 30, vwC (zeroF)), (g11, 26, vwC (zeroF)), (g8, 35, taCells ⟨1, mo, lc, tt, m⟩), (w.heap.size + 1 + 1 + 1, 24, arrC (S)), (w.heap.size + 1 + 1, 24, arrC (S)), (w.heap.size + 1, 33, vsC (V)), (w.heap.size, 29, vsC (V))] W := hMj
            injection ho with ho; subst ho
            refine .inl ⟨wanted_free rfl, ?_⟩
            have h83 : A.tmps[83]?.getD undef = .pointer (some ⟨g8, 3, none⟩) := he 3 (by kernel_rfl) (by rfl)
            have c0 := (hMs.get (g := g8) (t := 35) (cs := taCells ⟨1, mo, lc, tt, m⟩) (by simp)).cell 3
            go_simp
            exact ⟨rfl, Below.refl _ _⟩
          · injection ho with ho; subst ho
            refine .inl ⟨wanted_free rfl, ?_⟩
            have h8 : A.tmps[8]?.getD undef = .pointer (some ⟨g8, 0, none⟩) := hk 8 (by rfl)
            go_simp
            exact ⟨rfl, Below.refl _ _⟩
          · obtain rfl : j = 0 := Nat.le_zero.1 hj
            have hMs : Bs w [(g11 + 1, 30, vwC (zeroF)), (g11, 26, vwC (zeroF)), (g8, 35, taCells ⟨1, mo, lc, tt, m⟩), (w.heap.size + 1 + 1 + 1, 24, arrC (S)), (w.heap.size + 1 + 1, 24, arrC (S)), (w.heap.size + 1, 33, vsC (V)), (w.heap.size, 29, vsC (V))] W := hMj
            injection ho with ho; subst ho
            refine .inl ⟨wanted_free rfl, ?_⟩
            have h85 : A.tmps[85]?.getD undef = .pointer (some ⟨g8, 1, none⟩) := he 5 (by kernel_rfl) (by rfl)
            have c0 := (hMs.get (g := g8) (t := 35) (cs := taCells ⟨1, mo, lc, tt, m⟩) (by simp)).cell 1
            go_simp
            exact ⟨rfl, Below.refl _ _⟩
          · injection ho with ho; subst ho
            refine .inl ⟨wanted_free rfl, ?_⟩
            have h8 : A.tmps[8]?.getD undef = .pointer (some ⟨g8, 0, none⟩) := hk 8 (by rfl)
            go_simp
            exact ⟨rfl, Below.refl _ _⟩
          · obtain rfl : j = 0 := Nat.le_zero.1 hj
            have hMs : Bs w [(g11 + 1, 30, vwC (zeroF)), (g11, 26, vwC (zeroF)), (g8, 35, taCells ⟨1, mo, lc, tt, m⟩), (w.heap.size + 1 + 1 + 1, 24, arrC (S)), (w.heap.size + 1 + 1, 24, arrC (S)), (w.heap.size + 1, 33, vsC (V)), (w.heap.size, 29, vsC (V))] W := hMj
            injection ho with ho; subst ho
            refine .inl ⟨wanted_free rfl, ?_⟩
            have h87 : A.tmps[87]?.getD undef = .pointer (some ⟨g8, 4, none⟩) := he 7 (by kernel_rfl) (by rfl)
            exact y_load (cs := vwC (m)) rfl h87 (act_range ((hMs.get (g := g8) (t := 35) (cs := taCells ⟨1, mo, lc, tt, m⟩) (by simp)))) Try.underlying30 rfl rvSize
          · obtain rfl : j = 0 := Nat.le_zero.1 hj
            have hMs : Bs w [(g11 + 1, 30, vwC (zeroF)), (g11, 26, vwC (zeroF)), (g8, 35, taCells ⟨1, mo, lc, tt, m⟩), (w.heap.size + 1 + 1 + 1, 24, arrC (S)), (w.heap.size + 1 + 1, 24, arrC (S)), (w.heap.size + 1, 33, vsC (V)), (w.heap.size, 29, vsC (V))] W := hMj
            injection ho with ho; subst ho
            refine .inl ⟨wanted_free rfl, ?_⟩
            have h88 : A.tmps[88]?.getD undef = .agg (vwC (m)) := he 8 (by kernel_rfl) (by rfl)
            go_simp
            refine Calls.mono (view_any m W) ?_
            rintro e' w' ⟨rfl, hb⟩
            exact ⟨_, rfl, rfl, hb⟩
          · obtain rfl : j = 0 := Nat.le_zero.1 hj
            have hMs : Bs w [(g11 + 1, 30, vwC (zeroF)), (g11, 26, vwC (zeroF)), (g8, 35, taCells ⟨1, mo, lc, tt, m⟩), (w.heap.size + 1 + 1 + 1, 24, arrC (S)), (w.heap.size + 1 + 1, 24, arrC (S)), (w.heap.size + 1, 33, vsC (V)), (w.heap.size, 29, vsC (V))] W := hMj
            injection ho with ho; subst ho
            refine .inl ⟨wanted_free rfl, ?_⟩
            have h80 : A.tmps[80]?.getD undef = .agg (vsC (V)) := he 0 (by kernel_rfl) (by rfl)
            have h82 : A.tmps[82]?.getD undef = .int .i64 lc := he 2 (by kernel_rfl) (by rfl)
            have h84 : A.tmps[84]?.getD undef = .int .i64 tt := he 4 (by kernel_rfl) (by rfl)
            have h86 : A.tmps[86]?.getD undef = .int .u8 mo := he 6 (by kernel_rfl) (by rfl)
            have h89 : A.tmps[89]?.getD undef = .agg (vwC (m)) := he 9 (by kernel_rfl) (by rfl)
            go_simp
            refine Calls.mono (write_any V lc tt mo m W) ?_
            rintro e' w' ⟨rfl, hb⟩
            exact ⟨_, rfl, rfl, hb⟩
          · injection ho with ho; subst ho
            refine .inl ⟨wanted_free rfl, ?_⟩
            have h90 : A.tmps[90]?.getD undef = .tuple #[.agg (vsC (writeV V lc tt mo)), .agg (vwC (writeM V lc tt mo m)), .bool (writeOk V lc tt mo)] := he 10 (by kernel_rfl) (by rfl)
            go_simp
            exact ⟨rfl, Below.refl _ _⟩
          · injection ho with ho; subst ho
            refine .inl ⟨wanted_free rfl, ?_⟩
            have h79 : A.tmps[79]?.getD undef = .tuple #[.agg (vsC (writeV V lc tt mo)), .agg (vwC (writeM V lc tt mo m)), .bool (writeOk V lc tt mo)] := he 11 (by kernel_rfl) (by rfl)
            go_simp
            exact ⟨rfl, Below.refl _ _⟩
          · injection ho with ho; subst ho
            refine .inl ⟨wanted_free rfl, ?_⟩
            have h79 : A.tmps[79]?.getD undef = .tuple #[.agg (vsC (writeV V lc tt mo)), .agg (vwC (writeM V lc tt mo m)), .bool (writeOk V lc tt mo)] := he 11 (by kernel_rfl) (by rfl)
            go_simp
            exact ⟨rfl, Below.refl _ _⟩
          · injection ho with ho; subst ho
            refine .inl ⟨wanted_free rfl, ?_⟩
            have h79 : A.tmps[79]?.getD undef = .tuple #[.agg (vsC (writeV V lc tt mo)), .agg (vwC (writeM V lc tt mo m)), .bool (writeOk V lc tt mo)] := he 11 (by kernel_rfl) (by rfl)
            go_simp
            exact ⟨rfl, Below.refl _ _⟩
          · exact absurd hc (by decide)
          · exact absurd hc (by decide)
          · injection ho with ho; subst ho
            refine .inl ⟨wanted_free rfl, ?_⟩
            have h93 : A.tmps[93]?.getD undef = .bool (writeOk V lc tt mo) := he 14 (by kernel_rfl) (by rfl)
            go_simp
            exact ⟨rfl, Below.refl _ _⟩
        · intro j i o hji ho A W hz hMj hk he
          rcases j with _ | _ | j
          · obtain rfl : 15 = i := Option.some.inj hji
            injection ho with ho; subst ho
            refine .inl ⟨wanted_free rfl, ?_⟩
            have hMs : Bs w [(g11 + 1, 30, vwC (zeroF)), (g11, 26, vwC (zeroF)), (g8, 35, taCells ⟨1, mo, lc, tt, m⟩), (w.heap.size + 1 + 1 + 1, 24, arrC (S)), (w.heap.size + 1 + 1, 24, arrC (S)), (w.heap.size + 1, 33, vsC (V)), (w.heap.size, 29, vsC (V))] W := hMj
            have h3 : A.tmps[3]?.getD undef = .pointer (some ⟨w.heap.size, 0, none⟩) := hk 3 (by rfl)
            have h91 : A.tmps[91]?.getD undef = .agg (vsC (writeV V lc tt mo)) := he 12 (by kernel_rfl) (by rfl)
            exact y_store (cells := vsC (writeV V lc tt mo)) rfl h3 h91 (hMs.get (g := w.heap.size) (t := 29) (cs := vsC (V)) (by simp)) (by rw [vsC_size]; exact vsSize) (by rw [vsC_size, vsC_size]) (vsC_one _) (by have := hgz; omega) (fun _ _ => trivial) (Bs.upd (l1 := [(g11 + 1, 30, vwC (zeroF)), (g11, 26, vwC (zeroF)), (g8, 35, taCells ⟨1, mo, lc, tt, m⟩), (w.heap.size + 1 + 1 + 1, 24, arrC (S)), (w.heap.size + 1 + 1, 24, arrC (S)), (w.heap.size + 1, 33, vsC (V))]) (l2 := []) hMs (by omega) (by first | (simp; done) | (simp; omega)) (vsC (writeV V lc tt mo)))
          · obtain rfl : 16 = i := Option.some.inj hji
            injection ho with ho; subst ho
            refine .inl ⟨wanted_free rfl, ?_⟩
            have hMs : Bs w [(g11 + 1, 30, vwC (zeroF)), (g11, 26, vwC (zeroF)), (g8, 35, taCells ⟨1, mo, lc, tt, m⟩), (w.heap.size + 1 + 1 + 1, 24, arrC (S)), (w.heap.size + 1 + 1, 24, arrC (S)), (w.heap.size + 1, 33, vsC (V)), (w.heap.size, 29, vsC (writeV V lc tt mo))] W := hMj
            have h11 : A.tmps[11]?.getD undef = .pointer (some ⟨g11, 0, none⟩) := hk 11 (by rfl)
            have h92 : A.tmps[92]?.getD undef = .agg (vwC (writeM V lc tt mo m)) := he 13 (by kernel_rfl) (by rfl)
            exact y_store (cells := vwC (writeM V lc tt mo m)) rfl h11 h92 (hMs.get (g := g11) (t := 26) (cs := vwC (zeroF)) (by simp)) vewSize rfl (vwC_one _) (by have := hgz; omega) (fun _ _ => trivial) (Bs.upd (l1 := [(g11 + 1, 30, vwC (zeroF))]) (l2 := [(g8, 35, taCells ⟨1, mo, lc, tt, m⟩), (w.heap.size + 1 + 1 + 1, 24, arrC (S)), (w.heap.size + 1 + 1, 24, arrC (S)), (w.heap.size + 1, 33, vsC (V)), (w.heap.size, 29, vsC (writeV V lc tt mo))]) hMs (by omega) (by first | (simp; done) | (simp; omega)) (vwC (writeM V lc tt mo m)))
          · simp at hji
        · intro xs W hz hMe hV
          have hMe : Bs w [(g11 + 1, 30, vwC (zeroF)), (g11, 26, vwC (writeM V lc tt mo m)), (g8, 35, taCells ⟨1, mo, lc, tt, m⟩), (w.heap.size + 1 + 1 + 1, 24, arrC (S)), (w.heap.size + 1 + 1, 24, arrC (S)), (w.heap.size + 1, 33, vsC (V)), (w.heap.size, 29, vsC (writeV V lc tt mo))] W := hMe
          have e9 : xs 17 = .bool (writeOk V lc tt mo) := hV 17 (by simp) rfl
          simp only [putM, Act.put, List.setIfInBounds_toArray, List.set_cons_zero, List.set_cons_succ, Nat.zero_add, Nat.reduceAdd, e9]
          clear hV e9
          generalize W = w3 at hMe ⊢
          have HF := Lib.hid hMe
          clear hMe hz HW hgz
          go_upto_region 21 with (fail)
          have hgz : w.heap.size + 4 ≤ w3.heap.size ∧ g11 + 1 < w3.heap.size := by
            have h1 := ((HF.out.get (g := g11 + 1) (t := 30) (cs := vwC (zeroF)) (by simp))).lt
            omega
          refine wp_flowS1 [some 95, some 96, some 97, some 98, some 99, some 100, some 101, some 102, some 103, some 104, some 94, some 105, some 106, some 107, none, none, some 10] [14, 15] [0, 0, 0, 0, 0, 0, 0, 0, 0, 0, 0, 0, 0, 0, 0, 0, 2] [eqV (.agg (vsC (V))), eqV (.pointer (some ⟨g8, 2, none⟩)), eqV (.int .i64 lc), eqV (.pointer (some ⟨g8, 3, none⟩)), eqV (.int .i64 tt), eqV (.pointer (some ⟨g8, 1, none⟩)), eqV (.int .u8 mo), eqV (.pointer (some ⟨g8, 4, none⟩)), eqV (.agg (vwC (m))), eqV (.tuple #[.agg (vsC (writeV V lc tt mo)), .agg (vwC (writeM V lc tt mo m)), .bool (writeOk V lc tt mo)]), eqV (.tuple #[.agg (vsC (writeV V lc tt mo)), .agg (vwC (writeM V lc tt mo m)), .bool (writeOk V lc tt mo)]), eqV (.agg (vsC (writeV V lc tt mo))), eqV (.agg (vwC (writeM V lc tt mo m))), eqV (.bool (writeOk V lc tt mo)), fun _ _ => True, fun _ _ => True, eqV (.bool (writeOk V lc tt mo))] (fun j W => match j with | 0 => Bs w [(g11 + 1, 30, vwC (zeroF)), (g11, 26, vwC (writeM V lc tt mo m)), (g8, 35, taCells ⟨1, mo, lc, tt, m⟩), (w.heap.size + 1 + 1 + 1, 24, arrC (S)), (w.heap.size + 1 + 1, 24, arrC (S)), (w.heap.size + 1, 33, vsC (V)), (w.heap.size, 29, vsC (writeV V lc tt mo))] W | 1 => Bs w [(g11 + 1, 30, vwC (zeroF)), (g11, 26, vwC (writeM V lc tt mo m)), (g8, 35, taCells ⟨1, mo, lc, tt, m⟩), (w.heap.size + 1 + 1 + 1, 24, arrC (S)), (w.heap.size + 1 + 1, 24, arrC (S)), (w.heap.size + 1, 33, vsC (writeV V lc tt mo)), (w.heap.size, 29, vsC (writeV V lc tt mo))] W | _ => Bs w [(g11 + 1, 30, vwC (writeM V lc tt mo m)), (g11, 26, vwC (writeM V lc tt mo m)), (g8, 35, taCells ⟨1, mo, lc, tt, m⟩), (w.heap.size + 1 + 1 + 1, 24, arrC (S)), (w.heap.size + 1 + 1, 24, arrC (S)), (w.heap.size + 1, 33, vsC (writeV V lc tt mo)), (w.heap.size, 29, vsC (writeV V lc tt mo))] W) (by kernel_rfl) (by kernel_rfl) (by kernel_rfl) (by rfl)
            (by simp only [List.mem_cons, List.not_mem_nil, or_false, forall_eq_or_imp, forall_eq]; refine ⟨?_, ?_, ?_, ?_, ?_, ?_, ?_, ?_, ?_, ?_, ?_, ?_, ?_, ?_, ?_, ?_, ?_⟩ <;> (first | exact eqV_monoB _ _ | exact rowB_mono _ _ _ _ | exact true_monoB _))
            (fun j W W' h hb => by rcases j with _ | _ | j <;> first | exact (Bs.grown h hb)) (HF.out) ?_ ?_ ?_
          · intro i o hi ho hc j A W hj hz hMj hk he
            simp only [List.length_cons, List.length_nil, Nat.zero_add, Nat.reduceAdd] at hi
            obtain rfl | rfl | rfl | rfl | rfl | rfl | rfl | rfl | rfl | rfl | rfl | rfl | rfl | rfl | rfl | rfl | rfl : i = 0 ∨ i = 1 ∨ i = 2 ∨ i = 3 ∨ i = 4 ∨ i = 5 ∨ i = 6 ∨ i = 7 ∨ i = 8 ∨ i = 9 ∨ i = 10 ∨ i = 11 ∨ i = 12 ∨ i = 13 ∨ i = 14 ∨ i = 15 ∨ i = 16 := by omega
            · obtain rfl : j = 0 := hj
              have hMs : Bs w [(g11 + 1, 30, vwC (zeroF)), (g11, 26, vwC (writeM V lc tt mo m)), (g8, 35, taCells ⟨1, mo, lc, tt, m⟩), (w.heap.size + 1 + 1 + 1, 24, arrC (S)), (w.heap.size + 1 + 1, 24, arrC (S)), (w.heap.size + 1, 33, vsC (V)), (w.heap.size, 29, vsC (writeV V lc tt mo))] W := hMj
              injection ho with ho; subst ho
              refine .inl ⟨wanted_free rfl, ?_⟩
              have h4 : A.tmps[4]?.getD undef = .pointer (some ⟨w.heap.size + 1, 0, none⟩) := hk 4 (by rfl)
              exact y_load (cs := vsC (V)) rfl h4 (sits_range ((hMs.get (g := w.heap.size + 1) (t := 33) (cs := vsC (V)) (by simp)))) Try.underlying33 rfl rsSize
            · injection ho with ho; subst ho
              refine .inl ⟨wanted_free rfl, ?_⟩
              have h8 : A.tmps[8]?.getD undef = .pointer (some ⟨g8, 0, none⟩) := hk 8 (by rfl)
              go_simp
              exact ⟨rfl, Below.refl _ _⟩
            · obtain rfl : j = 0 := hj
              have hMs : Bs w [(g11 + 1, 30, vwC (zeroF)), (g11, 26, vwC (writeM V lc tt mo m)), (g8, 35, taCells ⟨1, mo, lc, tt, m⟩), (w.heap.size + 1 + 1 + 1, 24, arrC (S)), (w.heap.size + 1 + 1, 24, arrC (S)), (w.heap.size + 1, 33, vsC (V)), (w.heap.size, 29, vsC (writeV V lc tt mo))] W := hMj
              injection ho with ho; subst ho
              refine .inl ⟨wanted_free rfl, ?_⟩
              have h96 : A.tmps[96]?.getD undef = .pointer (some ⟨g8, 2, none⟩) := he 1 (by kernel_rfl) (by rfl)
              have c0 := (hMs.get (g := g8) (t := 35) (cs := taCells ⟨1, mo, lc, tt, m⟩) (by simp)).cell 2
              go_simp
              exact ⟨rfl, Below.refl _ _⟩
            · injection ho with ho; subst ho
              refine .inl ⟨wanted_free rfl, ?_⟩
              have h8 : A.tmps[8]?.getD undef = .pointer (some ⟨g8, 0, none⟩) := hk 8 (by rfl)
              go_simp
              exact ⟨rfl, Below.refl _ _⟩
            · obtain rfl : j = 0 := hj
              have hMs : Bs w [(g11 + 1, 30, vwC (zeroF)), (g11, 26, vwC (writeM V lc tt mo m)), (g8, 35, taCells ⟨1, mo, lc, tt, m⟩), (w.heap.size + 1 + 1 + 1, 24, arrC (S)), (w.heap.size + 1 + 1, 24, arrC (S)), (w.heap.size + 1, 33, vsC (V)), (w.heap.size, 29, vsC (writeV V lc tt mo))] W := hMj
              injection ho with ho; subst ho
              refine .inl ⟨wanted_free rfl, ?_⟩
              have h98 : A.tmps[98]?.getD undef = .pointer (some ⟨g8, 3, none⟩) := he 3 (by kernel_rfl) (by rfl)
              have c0 := (hMs.get (g := g8) (t := 35) (cs := taCells ⟨1, mo, lc, tt, m⟩) (by simp)).cell 3
              go_simp
              exact ⟨rfl, Below.refl _ _⟩
            · injection ho with ho; subst ho
              refine .inl ⟨wanted_free rfl, ?_⟩
              have h8 : A.tmps[8]?.getD undef = .pointer (some ⟨g8, 0, none⟩) := hk 8 (by rfl)
              go_simp
              exact ⟨rfl, Below.refl _ _⟩
            · obtain rfl : j = 0 := hj
              have hMs : Bs w [(g11 + 1, 30, vwC (zeroF)), (g11, 26, vwC (writeM V lc tt mo m)), (g8, 35, taCells ⟨1, mo, lc, tt, m⟩), (w.heap.size + 1 + 1 + 1, 24, arrC (S)), (w.heap.size + 1 + 1, 24, arrC (S)), (w.heap.size + 1, 33, vsC (V)), (w.heap.size, 29, vsC (writeV V lc tt mo))] W := hMj
              injection ho with ho; subst ho
              refine .inl ⟨wanted_free rfl, ?_⟩
              have h100 : A.tmps[100]?.getD undef = .pointer (some ⟨g8, 1, none⟩) := he 5 (by kernel_rfl) (by rfl)
              have c0 := (hMs.get (g := g8) (t := 35) (cs := taCells ⟨1, mo, lc, tt, m⟩) (by simp)).cell 1
              go_simp
              exact ⟨rfl, Below.refl _ _⟩
            · injection ho with ho; subst ho
              refine .inl ⟨wanted_free rfl, ?_⟩
              have h8 : A.tmps[8]?.getD undef = .pointer (some ⟨g8, 0, none⟩) := hk 8 (by rfl)
              go_simp
              exact ⟨rfl, Below.refl _ _⟩
            · obtain rfl : j = 0 := hj
              have hMs : Bs w [(g11 + 1, 30, vwC (zeroF)), (g11, 26, vwC (writeM V lc tt mo m)), (g8, 35, taCells ⟨1, mo, lc, tt, m⟩), (w.heap.size + 1 + 1 + 1, 24, arrC (S)), (w.heap.size + 1 + 1, 24, arrC (S)), (w.heap.size + 1, 33, vsC (V)), (w.heap.size, 29, vsC (writeV V lc tt mo))] W := hMj
              injection ho with ho; subst ho
              refine .inl ⟨wanted_free rfl, ?_⟩
              have h102 : A.tmps[102]?.getD undef = .pointer (some ⟨g8, 4, none⟩) := he 7 (by kernel_rfl) (by rfl)
              exact y_load (cs := vwC (m)) rfl h102 (act_range ((hMs.get (g := g8) (t := 35) (cs := taCells ⟨1, mo, lc, tt, m⟩) (by simp)))) Try.underlying30 rfl rvSize
            · obtain rfl : j = 0 := hj
              have hMs : Bs w [(g11 + 1, 30, vwC (zeroF)), (g11, 26, vwC (writeM V lc tt mo m)), (g8, 35, taCells ⟨1, mo, lc, tt, m⟩), (w.heap.size + 1 + 1 + 1, 24, arrC (S)), (w.heap.size + 1 + 1, 24, arrC (S)), (w.heap.size + 1, 33, vsC (V)), (w.heap.size, 29, vsC (writeV V lc tt mo))] W := hMj
              injection ho with ho; subst ho
              refine .inl ⟨wanted_free rfl, ?_⟩
              have h95 : A.tmps[95]?.getD undef = .agg (vsC (V)) := he 0 (by kernel_rfl) (by rfl)
              have h97 : A.tmps[97]?.getD undef = .int .i64 lc := he 2 (by kernel_rfl) (by rfl)
              have h99 : A.tmps[99]?.getD undef = .int .i64 tt := he 4 (by kernel_rfl) (by rfl)
              have h101 : A.tmps[101]?.getD undef = .int .u8 mo := he 6 (by kernel_rfl) (by rfl)
              have h103 : A.tmps[103]?.getD undef = .agg (vwC (m)) := he 8 (by kernel_rfl) (by rfl)
              go_simp
              refine Calls.mono (HD.out W) ?_
              rintro e' w' ⟨rfl, hb⟩
              exact ⟨_, rfl, rfl, hb⟩
            · injection ho with ho; subst ho
              refine .inl ⟨wanted_free rfl, ?_⟩
              have h104 : A.tmps[104]?.getD undef = .tuple #[.agg (vsC (writeV V lc tt mo)), .agg (vwC (writeM V lc tt mo m)), .bool (writeOk V lc tt mo)] := he 9 (by kernel_rfl) (by rfl)
              go_simp
              exact ⟨rfl, Below.refl _ _⟩
            · injection ho with ho; subst ho
              refine .inl ⟨wanted_free rfl, ?_⟩
              have h94 : A.tmps[94]?.getD undef = .tuple #[.agg (vsC (writeV V lc tt mo)), .agg (vwC (writeM V lc tt mo m)), .bool (writeOk V lc tt mo)] := he 10 (by kernel_rfl) (by rfl)
              go_simp
              exact ⟨rfl, Below.refl _ _⟩
            · injection ho with ho; subst ho
              refine .inl ⟨wanted_free rfl, ?_⟩
              have h94 : A.tmps[94]?.getD undef = .tuple #[.agg (vsC (writeV V lc tt mo)), .agg (vwC (writeM V lc tt mo m)), .bool (writeOk V lc tt mo)] := he 10 (by kernel_rfl) (by rfl)
              go_simp
              exact ⟨rfl, Below.refl _ _⟩
            · injection ho with ho; subst ho
              refine .inl ⟨wanted_free rfl, ?_⟩
              have h94 : A.tmps[94]?.getD undef = .tuple #[.agg (vsC (writeV V lc tt mo)), .agg (vwC (writeM V lc tt mo m)), .bool (writeOk V lc tt mo)] := he 10 (by kernel_rfl) (by rfl)
              go_simp
              exact ⟨rfl, Below.refl _ _⟩
            · exact absurd hc (by decide)
            · exact absurd hc (by decide)
            · injection ho with ho; subst ho
              refine .inl ⟨wanted_free rfl, ?_⟩
              have h107 : A.tmps[107]?.getD undef = .bool (writeOk V lc tt mo) := he 13 (by kernel_rfl) (by rfl)
              go_simp
              exact ⟨rfl, Below.refl _ _⟩
          · intro j i o hji ho A W hz hMj hk he
            rcases j with _ | _ | j
            · obtain rfl : 14 = i := Option.some.inj hji
              injection ho with ho; subst ho
              refine .inl ⟨wanted_free rfl, ?_⟩
              have hMs : Bs w [(g11 + 1, 30, vwC (zeroF)), (g11, 26, vwC (writeM V lc tt mo m)), (g8, 35, taCells ⟨1, mo, lc, tt, m⟩), (w.heap.size + 1 + 1 + 1, 24, arrC (S)), (w.heap.size + 1 + 1, 24, arrC (S)), (w.heap.size + 1, 33, vsC (V)), (w.heap.size, 29, vsC (writeV V lc tt mo))] W := hMj
              have h4 : A.tmps[4]?.getD undef = .pointer (some ⟨w.heap.size + 1, 0, none⟩) := hk 4 (by rfl)
              have h105 : A.tmps[105]?.getD undef = .agg (vsC (writeV V lc tt mo)) := he 11 (by kernel_rfl) (by rfl)
              exact y_store (cells := vsC (writeV V lc tt mo)) rfl h4 h105 (hMs.get (g := w.heap.size + 1) (t := 33) (cs := vsC (V)) (by simp)) (by rw [vsC_size]; exact rsSize) (by rw [vsC_size, vsC_size]) (vsC_one _) (by have := hgz; omega) (fun _ _ => trivial) (Bs.upd (l1 := [(g11 + 1, 30, vwC (zeroF)), (g11, 26, vwC (writeM V lc tt mo m)), (g8, 35, taCells ⟨1, mo, lc, tt, m⟩), (w.heap.size + 1 + 1 + 1, 24, arrC (S)), (w.heap.size + 1 + 1, 24, arrC (S))]) (l2 := [(w.heap.size, 29, vsC (writeV V lc tt mo))]) hMs (by omega) (by first | (simp; done) | (simp; omega)) (vsC (writeV V lc tt mo)))
            · obtain rfl : 15 = i := Option.some.inj hji
              injection ho with ho; subst ho
              refine .inl ⟨wanted_free rfl, ?_⟩
              have hMs : Bs w [(g11 + 1, 30, vwC (zeroF)), (g11, 26, vwC (writeM V lc tt mo m)), (g8, 35, taCells ⟨1, mo, lc, tt, m⟩), (w.heap.size + 1 + 1 + 1, 24, arrC (S)), (w.heap.size + 1 + 1, 24, arrC (S)), (w.heap.size + 1, 33, vsC (writeV V lc tt mo)), (w.heap.size, 29, vsC (writeV V lc tt mo))] W := hMj
              have h12 : A.tmps[12]?.getD undef = .pointer (some ⟨g11 + 1, 0, none⟩) := hk 12 (by rfl)
              have h106 : A.tmps[106]?.getD undef = .agg (vwC (writeM V lc tt mo m)) := he 12 (by kernel_rfl) (by rfl)
              exact y_store (cells := vwC (writeM V lc tt mo m)) rfl h12 h106 (hMs.get (g := g11 + 1) (t := 30) (cs := vwC (zeroF)) (by simp)) rvSize rfl (vwC_one _) (by have := hgz; omega) (fun _ _ => trivial) (Bs.upd (l1 := []) (l2 := [(g11, 26, vwC (writeM V lc tt mo m)), (g8, 35, taCells ⟨1, mo, lc, tt, m⟩), (w.heap.size + 1 + 1 + 1, 24, arrC (S)), (w.heap.size + 1 + 1, 24, arrC (S)), (w.heap.size + 1, 33, vsC (writeV V lc tt mo)), (w.heap.size, 29, vsC (writeV V lc tt mo))]) hMs (by omega) (by first | (simp; done) | (simp; omega)) (vwC (writeM V lc tt mo m)))
            · simp at hji
          · intro xs W hz hMe hV
            have hMe : Bs w [(g11 + 1, 30, vwC (writeM V lc tt mo m)), (g11, 26, vwC (writeM V lc tt mo m)), (g8, 35, taCells ⟨1, mo, lc, tt, m⟩), (w.heap.size + 1 + 1 + 1, 24, arrC (S)), (w.heap.size + 1 + 1, 24, arrC (S)), (w.heap.size + 1, 33, vsC (writeV V lc tt mo)), (w.heap.size, 29, vsC (writeV V lc tt mo))] W := hMe
            have e10 : xs 16 = .bool (writeOk V lc tt mo) := hV 16 (by simp) rfl
            simp only [putM, Act.put, List.setIfInBounds_toArray, List.set_cons_zero, List.set_cons_succ, Nat.zero_add, Nat.reduceAdd, e10]
            clear hV e10
            generalize W = w4 at hMe ⊢
            have HG := Lib.hid hMe
            clear hMe hz HF hgz HD
            go_upto_region 22 with (fail)
            have HQ0 : Hid (∀ W, (binOp .neq 26 (.agg (vwC (writeM V lc tt mo m))) (.agg (vwC (writeM V lc tt mo m)))).run Try.prog W = .ok (.bool false) W) := Lib.hid (fun W => by have h := neq_vew (writeM V lc tt mo m) (writeM V lc tt mo m) W; rw [same_self] at h; exact h)
            refine wp_flowM [some 108, some 109, some 110, some 111] [] [0, 0, 0, 0] [eqV (.agg (vwC (writeM V lc tt mo m))), eqV (.agg (vwC (writeM V lc tt mo m))), eqV (.agg (vwC (writeM V lc tt mo m))), eqV (.bool false)] (fun _ W => Bs w [(g11 + 1, 30, vwC (writeM V lc tt mo m)), (g11, 26, vwC (writeM V lc tt mo m)), (g8, 35, taCells ⟨1, mo, lc, tt, m⟩), (w.heap.size + 1 + 1 + 1, 24, arrC (S)), (w.heap.size + 1 + 1, 24, arrC (S)), (w.heap.size + 1, 33, vsC (writeV V lc tt mo)), (w.heap.size, 29, vsC (writeV V lc tt mo))] W) (by kernel_rfl) (by kernel_rfl) (by kernel_rfl) (by rfl)
              (by simp only [List.mem_cons, List.not_mem_nil, or_false, forall_eq_or_imp, forall_eq]; refine ⟨?_, ?_, ?_, ?_⟩ <;> (first | exact eqV_monoB _ _ | exact rowB_mono _ _ _ _ | exact true_monoB _))
              (fun j W W' h hb => by exact (Bs.grown h hb)) (HG.out) ?_ ?_ ?_
            · intro i o hi ho hc j A W hj hz hMj hk he
              simp only [List.length_cons, List.length_nil, Nat.zero_add, Nat.reduceAdd] at hi
              obtain rfl | rfl | rfl | rfl : i = 0 ∨ i = 1 ∨ i = 2 ∨ i = 3 := by omega
              · obtain rfl : j = 0 := Nat.le_zero.1 hj
                have hMs : Bs w [(g11 + 1, 30, vwC (writeM V lc tt mo m)), (g11, 26, vwC (writeM V lc tt mo m)), (g8, 35, taCells ⟨1, mo, lc, tt, m⟩), (w.heap.size + 1 + 1 + 1, 24, arrC (S)), (w.heap.size + 1 + 1, 24, arrC (S)), (w.heap.size + 1, 33, vsC (writeV V lc tt mo)), (w.heap.size, 29, vsC (writeV V lc tt mo))] W := hMj
                injection ho with ho; subst ho
                refine .inl ⟨wanted_free rfl, ?_⟩
                have h11 : A.tmps[11]?.getD undef = .pointer (some ⟨g11, 0, none⟩) := hk 11 (by rfl)
                exact y_load (cs := vwC (writeM V lc tt mo m)) rfl h11 (sits_range ((hMs.get (g := g11) (t := 26) (cs := vwC (writeM V lc tt mo m)) (by simp)))) Try.underlying26 rfl vewSize
              · obtain rfl : j = 0 := Nat.le_zero.1 hj
                have hMs : Bs w [(g11 + 1, 30, vwC (writeM V lc tt mo m)), (g11, 26, vwC (writeM V lc tt mo m)), (g8, 35, taCells ⟨1, mo, lc, tt, m⟩), (w.heap.size + 1 + 1 + 1, 24, arrC (S)), (w.heap.size + 1 + 1, 24, arrC (S)), (w.heap.size + 1, 33, vsC (writeV V lc tt mo)), (w.heap.size, 29, vsC (writeV V lc tt mo))] W := hMj
                injection ho with ho; subst ho
                refine .inl ⟨wanted_free rfl, ?_⟩
                have h12 : A.tmps[12]?.getD undef = .pointer (some ⟨g11 + 1, 0, none⟩) := hk 12 (by rfl)
                exact y_load (cs := vwC (writeM V lc tt mo m)) rfl h12 (sits_range ((hMs.get (g := g11 + 1) (t := 30) (cs := vwC (writeM V lc tt mo m)) (by simp)))) Try.underlying30 rfl rvSize
              · obtain rfl : j = 0 := Nat.le_zero.1 hj
                have hMs : Bs w [(g11 + 1, 30, vwC (writeM V lc tt mo m)), (g11, 26, vwC (writeM V lc tt mo m)), (g8, 35, taCells ⟨1, mo, lc, tt, m⟩), (w.heap.size + 1 + 1 + 1, 24, arrC (S)), (w.heap.size + 1 + 1, 24, arrC (S)), (w.heap.size + 1, 33, vsC (writeV V lc tt mo)), (w.heap.size, 29, vsC (writeV V lc tt mo))] W := hMj
                injection ho with ho; subst ho
                refine .inl ⟨wanted_free rfl, ?_⟩
                have h109 : A.tmps[109]?.getD undef = .agg (vwC (writeM V lc tt mo m)) := he 1 (by kernel_rfl) (by rfl)
                go_simp
                refine Calls.mono (view_any (writeM V lc tt mo m) W) ?_
                rintro e' w' ⟨rfl, hb⟩
                exact ⟨_, rfl, rfl, hb⟩
              · injection ho with ho; subst ho
                refine .inl ⟨wanted_free rfl, ?_⟩
                have h108 : A.tmps[108]?.getD undef = .agg (vwC (writeM V lc tt mo m)) := he 0 (by kernel_rfl) (by rfl)
                have h110 : A.tmps[110]?.getD undef = .agg (vwC (writeM V lc tt mo m)) := he 2 (by kernel_rfl) (by rfl)
                have hq := HQ0.out W
                have hgd : ∀ x y, (eqGuard .neq 26 x y (Value.agg (vwC (writeM V lc tt mo m))) (Value.agg (vwC (writeM V lc tt mo m)))).run Try.prog W = .ok () W := fun x y => guard_vew .neq x y (writeM V lc tt mo m) (writeM V lc tt mo m) W
                generalize Value.agg (vwC (writeM V lc tt mo m)) = X at h108 h110 hq hgd
                go_simp
                exact ⟨rfl, Below.refl _ _⟩
            · intro j i o hji ho A W hz hMj hk he
              simp at hji
            · intro xs W hz hMe hV
              have hMe : Bs w [(g11 + 1, 30, vwC (writeM V lc tt mo m)), (g11, 26, vwC (writeM V lc tt mo m)), (g8, 35, taCells ⟨1, mo, lc, tt, m⟩), (w.heap.size + 1 + 1 + 1, 24, arrC (S)), (w.heap.size + 1 + 1, 24, arrC (S)), (w.heap.size + 1, 33, vsC (writeV V lc tt mo)), (w.heap.size, 29, vsC (writeV V lc tt mo))] W := hMe
              have e111 : xs 3 = .bool false := hV 3 (by simp) rfl
              simp only [putM, Act.put, List.setIfInBounds_toArray, List.set_cons_zero, List.set_cons_succ, Nat.zero_add, Nat.reduceAdd, e111]
              clear hV e111
              generalize W = w5 at hMe ⊢
              have HH := Lib.hid hMe
              clear hMe hz HG HQ0
              generalize writeOk V lc tt mo = ok
              go_upto_region 24 with (fail)
              have HQ1 : Hid (∀ W, (binOp .neq 29 (.agg (vsC (writeV V lc tt mo))) (.agg (vsC (writeV V lc tt mo)))).run Try.prog W = .ok (.bool false) W) := Lib.hid (fun W => by have h := neq_vs (writeV V lc tt mo) (writeV V lc tt mo) W; rw [sameV_self] at h; exact h)
              have HQ2 : Hid (∀ W, (binOp .neq 24 (arr (S)) (arr (S))).run Try.prog W = .ok (.bool false) W) := Lib.hid (fun W => by have h := neq_arr (S) (S) W; rw [same_self] at h; exact h)
              refine wp_flowM [some 112, some 113, some 114, some 115, some 116, some 117, some 118, some 119, some 120, some 121, some 122, some 123, some 124, some 125] [] [0, 0, 0, 0, 0, 0, 0, 0, 0, 0, 0, 0, 0, 0] [eqV (.bool ok), eqV (.bool ok), eqV (.bool false), eqV (.bool false), eqV (.agg (vsC (writeV V lc tt mo))), eqV (.agg (vsC (writeV V lc tt mo))), eqV (.agg (vsC (writeV V lc tt mo))), eqV (.bool false), eqV (.bool false), eqV (.bool false), eqV (arr (S)), eqV (arr (S)), eqV (.bool false), eqV (.bool false)] (fun _ W => Bs w [(g11 + 1, 30, vwC (writeM V lc tt mo m)), (g11, 26, vwC (writeM V lc tt mo m)), (g8, 35, taCells ⟨1, mo, lc, tt, m⟩), (w.heap.size + 1 + 1 + 1, 24, arrC (S)), (w.heap.size + 1 + 1, 24, arrC (S)), (w.heap.size + 1, 33, vsC (writeV V lc tt mo)), (w.heap.size, 29, vsC (writeV V lc tt mo))] W) (by kernel_rfl) (by kernel_rfl) (by kernel_rfl) (by rfl)
                (by simp only [List.mem_cons, List.not_mem_nil, or_false, forall_eq_or_imp, forall_eq]; refine ⟨?_, ?_, ?_, ?_, ?_, ?_, ?_, ?_, ?_, ?_, ?_, ?_, ?_, ?_⟩ <;> (first | exact eqV_monoB _ _ | exact rowB_mono _ _ _ _ | exact true_monoB _))
                (fun j W W' h hb => by exact (Bs.grown h hb)) (HH.out) ?_ ?_ ?_
              · intro i o hi ho hc j A W hj hz hMj hk he
                simp only [List.length_cons, List.length_nil, Nat.zero_add, Nat.reduceAdd] at hi
                obtain rfl | rfl | rfl | rfl | rfl | rfl | rfl | rfl | rfl | rfl | rfl | rfl | rfl | rfl : i = 0 ∨ i = 1 ∨ i = 2 ∨ i = 3 ∨ i = 4 ∨ i = 5 ∨ i = 6 ∨ i = 7 ∨ i = 8 ∨ i = 9 ∨ i = 10 ∨ i = 11 ∨ i = 12 ∨ i = 13 := by omega
                · injection ho with ho; subst ho
                  refine .inl ⟨wanted_free rfl, ?_⟩
                  have h9 : A.tmps[9]?.getD undef = .bool ok := hk 9 (by rfl)
                  go_simp
                  exact ⟨rfl, Below.refl _ _⟩
                · injection ho with ho; subst ho
                  refine .inl ⟨wanted_free rfl, ?_⟩
                  have h10 : A.tmps[10]?.getD undef = .bool ok := hk 10 (by rfl)
                  go_simp
                  exact ⟨rfl, Below.refl _ _⟩
                · injection ho with ho; subst ho
                  refine .inl ⟨wanted_free rfl, ?_⟩
                  have h112 : A.tmps[112]?.getD undef = .bool ok := he 0 (by kernel_rfl) (by rfl)
                  have h113 : A.tmps[113]?.getD undef = .bool ok := he 1 (by kernel_rfl) (by rfl)
                  go_simp
                  exact ⟨rfl, Below.refl _ _⟩
                · injection ho with ho; subst ho
                  refine .inl ⟨wanted_free rfl, ?_⟩
                  have h114 : A.tmps[114]?.getD undef = .bool false := he 2 (by kernel_rfl) (by rfl)
                  go_simp
                  exact ⟨rfl, Below.refl _ _⟩
                · obtain rfl : j = 0 := Nat.le_zero.1 hj
                  have hMs : Bs w [(g11 + 1, 30, vwC (writeM V lc tt mo m)), (g11, 26, vwC (writeM V lc tt mo m)), (g8, 35, taCells ⟨1, mo, lc, tt, m⟩), (w.heap.size + 1 + 1 + 1, 24, arrC (S)), (w.heap.size + 1 + 1, 24, arrC (S)), (w.heap.size + 1, 33, vsC (writeV V lc tt mo)), (w.heap.size, 29, vsC (writeV V lc tt mo))] W := hMj
                  injection ho with ho; subst ho
                  have hg : A.tmps[115]?.getD undef = .bool false := he 3 (by kernel_rfl) (by rfl)
                  refine .inl ⟨wanted_yes (d := 115) rfl (by kernel_rfl) hg, ?_⟩
                  have h3 : A.tmps[3]?.getD undef = .pointer (some ⟨w.heap.size, 0, none⟩) := hk 3 (by rfl)
                  exact y_load (cs := vsC (writeV V lc tt mo)) rfl h3 (sits_range ((hMs.get (g := w.heap.size) (t := 29) (cs := vsC (writeV V lc tt mo)) (by simp)))) Try.underlying29 rfl vsSize
                · obtain rfl : j = 0 := Nat.le_zero.1 hj
                  have hMs : Bs w [(g11 + 1, 30, vwC (writeM V lc tt mo m)), (g11, 26, vwC (writeM V lc tt mo m)), (g8, 35, taCells ⟨1, mo, lc, tt, m⟩), (w.heap.size + 1 + 1 + 1, 24, arrC (S)), (w.heap.size + 1 + 1, 24, arrC (S)), (w.heap.size + 1, 33, vsC (writeV V lc tt mo)), (w.heap.size, 29, vsC (writeV V lc tt mo))] W := hMj
                  injection ho with ho; subst ho
                  have hg : A.tmps[115]?.getD undef = .bool false := he 3 (by kernel_rfl) (by rfl)
                  refine .inl ⟨wanted_yes (d := 115) rfl (by kernel_rfl) hg, ?_⟩
                  have h4 : A.tmps[4]?.getD undef = .pointer (some ⟨w.heap.size + 1, 0, none⟩) := hk 4 (by rfl)
                  exact y_load (cs := vsC (writeV V lc tt mo)) rfl h4 (sits_range ((hMs.get (g := w.heap.size + 1) (t := 33) (cs := vsC (writeV V lc tt mo)) (by simp)))) Try.underlying33 rfl rsSize
                · obtain rfl : j = 0 := Nat.le_zero.1 hj
                  have hMs : Bs w [(g11 + 1, 30, vwC (writeM V lc tt mo m)), (g11, 26, vwC (writeM V lc tt mo m)), (g8, 35, taCells ⟨1, mo, lc, tt, m⟩), (w.heap.size + 1 + 1 + 1, 24, arrC (S)), (w.heap.size + 1 + 1, 24, arrC (S)), (w.heap.size + 1, 33, vsC (writeV V lc tt mo)), (w.heap.size, 29, vsC (writeV V lc tt mo))] W := hMj
                  injection ho with ho; subst ho
                  have hg : A.tmps[115]?.getD undef = .bool false := he 3 (by kernel_rfl) (by rfl)
                  refine .inl ⟨wanted_yes (d := 115) rfl (by kernel_rfl) hg, ?_⟩
                  have h117 : A.tmps[117]?.getD undef = .agg (vsC (writeV V lc tt mo)) := he 5 (by kernel_rfl) (by rfl)
                  go_simp
                  refine Calls.mono (of_any (writeV V lc tt mo) W) ?_
                  rintro e' w' ⟨rfl, hb⟩
                  exact ⟨_, rfl, rfl, hb⟩
                · injection ho with ho; subst ho
                  have hg : A.tmps[115]?.getD undef = .bool false := he 3 (by kernel_rfl) (by rfl)
                  refine .inl ⟨wanted_yes (d := 115) rfl (by kernel_rfl) hg, ?_⟩
                  have h116 : A.tmps[116]?.getD undef = .agg (vsC (writeV V lc tt mo)) := he 4 (by kernel_rfl) (by rfl)
                  have h118 : A.tmps[118]?.getD undef = .agg (vsC (writeV V lc tt mo)) := he 6 (by kernel_rfl) (by rfl)
                  have hq := HQ1.out W
                  have hgd : ∀ x y, (eqGuard .neq 29 x y (Value.agg (vsC (writeV V lc tt mo))) (Value.agg (vsC (writeV V lc tt mo)))).run Try.prog W = .ok () W := fun x y => guard_vs .neq x y (writeV V lc tt mo) (writeV V lc tt mo) W
                  generalize Value.agg (vsC (writeV V lc tt mo)) = X at h116 h118 hq hgd
                  go_simp
                  exact ⟨rfl, Below.refl _ _⟩
                · injection ho with ho; subst ho
                  refine .inl ⟨wanted_free rfl, ?_⟩
                  have h115 : A.tmps[115]?.getD undef = .bool false := he 3 (by kernel_rfl) (by rfl)
                  have h119 : A.tmps[119]?.getD undef = .bool false := he 7 (by kernel_rfl) (by rfl)
                  go_simp
                  exact ⟨rfl, Below.refl _ _⟩
                · injection ho with ho; subst ho
                  refine .inl ⟨wanted_free rfl, ?_⟩
                  have h120 : A.tmps[120]?.getD undef = .bool false := he 8 (by kernel_rfl) (by rfl)
                  go_simp
                  exact ⟨rfl, Below.refl _ _⟩
                · obtain rfl : j = 0 := Nat.le_zero.1 hj
                  have hMs : Bs w [(g11 + 1, 30, vwC (writeM V lc tt mo m)), (g11, 26, vwC (writeM V lc tt mo m)), (g8, 35, taCells ⟨1, mo, lc, tt, m⟩), (w.heap.size + 1 + 1 + 1, 24, arrC (S)), (w.heap.size + 1 + 1, 24, arrC (S)), (w.heap.size + 1, 33, vsC (writeV V lc tt mo)), (w.heap.size, 29, vsC (writeV V lc tt mo))] W := hMj
                  injection ho with ho; subst ho
                  have hg : A.tmps[121]?.getD undef = .bool false := he 9 (by kernel_rfl) (by rfl)
                  refine .inl ⟨wanted_yes (d := 121) rfl (by kernel_rfl) hg, ?_⟩
                  have h5 : A.tmps[5]?.getD undef = .pointer (some ⟨w.heap.size + 1 + 1, 0, none⟩) := hk 5 (by rfl)
                  have c0 := ((hMs.get (g := w.heap.size + 1 + 1) (t := 24) (cs := arrC (S)) (by simp))).cell 0
                  have c1 := ((hMs.get (g := w.heap.size + 1 + 1) (t := 24) (cs := arrC (S)) (by simp))).cell 1
                  have c2 := ((hMs.get (g := w.heap.size + 1 + 1) (t := 24) (cs := arrC (S)) (by simp))).cell 2
                  have c3 := ((hMs.get (g := w.heap.size + 1 + 1) (t := 24) (cs := arrC (S)) (by simp))).cell 3
                  go_simp
                  exact ⟨rfl, Below.refl _ _⟩
                · obtain rfl : j = 0 := Nat.le_zero.1 hj
                  have hMs : Bs w [(g11 + 1, 30, vwC (writeM V lc tt mo m)), (g11, 26, vwC (writeM V lc tt mo m)), (g8, 35, taCells ⟨1, mo, lc, tt, m⟩), (w.heap.size + 1 + 1 + 1, 24, arrC (S)), (w.heap.size + 1 + 1, 24, arrC (S)), (w.heap.size + 1, 33, vsC (writeV V lc tt mo)), (w.heap.size, 29, vsC (writeV V lc tt mo))] W := hMj
                  injection ho with ho; subst ho
                  have hg : A.tmps[121]?.getD undef = .bool false := he 9 (by kernel_rfl) (by rfl)
                  refine .inl ⟨wanted_yes (d := 121) rfl (by kernel_rfl) hg, ?_⟩
                  have h6 : A.tmps[6]?.getD undef = .pointer (some ⟨w.heap.size + 1 + 1 + 1, 0, none⟩) := hk 6 (by rfl)
                  have c0 := ((hMs.get (g := w.heap.size + 1 + 1 + 1) (t := 24) (cs := arrC (S)) (by simp))).cell 0
                  have c1 := ((hMs.get (g := w.heap.size + 1 + 1 + 1) (t := 24) (cs := arrC (S)) (by simp))).cell 1
                  have c2 := ((hMs.get (g := w.heap.size + 1 + 1 + 1) (t := 24) (cs := arrC (S)) (by simp))).cell 2
                  have c3 := ((hMs.get (g := w.heap.size + 1 + 1 + 1) (t := 24) (cs := arrC (S)) (by simp))).cell 3
                  go_simp
                  exact ⟨rfl, Below.refl _ _⟩
                · injection ho with ho; subst ho
                  have hg : A.tmps[121]?.getD undef = .bool false := he 9 (by kernel_rfl) (by rfl)
                  refine .inl ⟨wanted_yes (d := 121) rfl (by kernel_rfl) hg, ?_⟩
                  have h122 : A.tmps[122]?.getD undef = arr (S) := he 10 (by kernel_rfl) (by rfl)
                  have h123 : A.tmps[123]?.getD undef = arr (S) := he 11 (by kernel_rfl) (by rfl)
                  have hq := HQ2.out W
                  have hgd : ∀ x y, (eqGuard .neq 24 x y (arr (S)) (arr (S))).run Try.prog W = .ok () W := fun x y => guard_arr .neq x y (S) (S) W
                  generalize arr (S) = X at h122 h123 hq hgd
                  go_simp
                  exact ⟨rfl, Below.refl _ _⟩
                · injection ho with ho; subst ho
                  refine .inl ⟨wanted_free rfl, ?_⟩
                  have h121 : A.tmps[121]?.getD undef = .bool false := he 9 (by kernel_rfl) (by rfl)
                  have h124 : A.tmps[124]?.getD undef = .bool false := he 12 (by kernel_rfl) (by rfl)
                  go_simp
                  exact ⟨rfl, Below.refl _ _⟩
              · intro j i o hji ho A W hz hMj hk he
                simp at hji
              · intro xs W hz hMe hV
                have hMe : Bs w [(g11 + 1, 30, vwC (writeM V lc tt mo m)), (g11, 26, vwC (writeM V lc tt mo m)), (g8, 35, taCells ⟨1, mo, lc, tt, m⟩), (w.heap.size + 1 + 1 + 1, 24, arrC (S)), (w.heap.size + 1 + 1, 24, arrC (S)), (w.heap.size + 1, 33, vsC (writeV V lc tt mo)), (w.heap.size, 29, vsC (writeV V lc tt mo))] W := hMe
                have e125 : xs 13 = .bool false := hV 13 (by simp) rfl
                simp only [putM, Act.put, List.setIfInBounds_toArray, List.set_cons_zero, List.set_cons_succ, Nat.zero_add, Nat.reduceAdd, e125]
                clear hV e125
                generalize W = w9 at hMe ⊢
                have HE := Lib.hid (hMe.mono (l' := [(w.heap.size + 1 + 1 + 1, 24, arrC (S)), (w.heap.size + 1 + 1, 24, arrC (S)), (w.heap.size + 1, 33, vsC (writeV V lc tt mo)), (w.heap.size, 29, vsC (writeV V lc tt mo))]) (fun p hp => List.mem_append_right [(g11 + 1, 30, vwC (writeM V lc tt mo m)), (g11, 26, vwC (writeM V lc tt mo m)), (g8, 35, taCells ⟨1, mo, lc, tt, m⟩)] hp))
                clear hMe hz HH HQ1 HQ2
                go_wp2_with fail
                go_roundg (l.length - (i + 1))
                case measure => have := HL.out; omega
                case rel => exact ⟨i + 1, writeV V lc tt mo, S, by have := HL.out; omega, rfl, by go_num, Lib.hid ⟨HE.out, nn_write HN.out lc tt mo⟩⟩
      have e0 : ((d : Int) == 0) = false := by simpa using h0
      have e1 : ((d : Int) == 1) = false := by simpa using h2
      clear h0 h2
      go_upto_region 12 with (fail)
      clear c0 e0 e1
      have HD : Hid (∀ W, Calls Try.prog 12 #[.agg (vsC V), .int .i64 lc, .int .i64 tt, .int .u8 mo, .agg (vwC m)] W (Made (.returned (.tuple #[.agg (vsC (readV V lc tt mo m)), .bool (readOk V lc tt mo)])) W)) := Lib.hid (fun W => by
        have h := dread_any V lc tt mo m W
        rwa [read_same HN.out] at h)
      have hgz : w.heap.size + 4 ≤ w1.heap.size ∧ g8 < w1.heap.size := by
        have h1 := ((HK.out.get (g := g8) (t := 35) (cs := taCells ⟨d, mo, lc, tt, m⟩) (by simp))).lt
        omega
      refine wp_flowM [some 31, some 32, some 33, some 34, some 35, some 36, some 37, some 38, some 39, some 40, some 41, some 30, some 42, some 43, none, some 9] [14] [0, 0, 0, 0, 0, 0, 0, 0, 0, 0, 0, 0, 0, 1, 0, 1] [eqV (.agg (vsC (V))), eqV (.pointer (some ⟨g8, 2, none⟩)), eqV (.int .i64 lc), eqV (.pointer (some ⟨g8, 3, none⟩)), eqV (.int .i64 tt), eqV (.pointer (some ⟨g8, 1, none⟩)), eqV (.int .u8 mo), eqV (.pointer (some ⟨g8, 4, none⟩)), eqV (.agg (vwC (m))), eqV (.agg (vwC (m))), eqV (.tuple #[.agg (vsC (readV V lc tt mo m)), .bool (readOk V lc tt mo)]), eqV (.tuple #[.agg (vsC (readV V lc tt mo m)), .bool (readOk V lc tt mo)]), eqV (.agg (vsC (readV V lc tt mo m))), eqV (.bool (readOk V lc tt mo)), fun _ _ => True, eqV (.bool (readOk V lc tt mo))] (fun j W => match j with | 0 => Bs w [(g8, 35, taCells ⟨d, mo, lc, tt, m⟩), (w.heap.size + 1 + 1 + 1, 24, arrC (S)), (w.heap.size + 1 + 1, 24, arrC (S)), (w.heap.size + 1, 33, vsC (V)), (w.heap.size, 29, vsC (V))] W | _ => Bs w [(g8, 35, taCells ⟨d, mo, lc, tt, m⟩), (w.heap.size + 1 + 1 + 1, 24, arrC (S)), (w.heap.size + 1 + 1, 24, arrC (S)), (w.heap.size + 1, 33, vsC (V)), (w.heap.size, 29, vsC (readV V lc tt mo m))] W) (by kernel_rfl) (by kernel_rfl) (by kernel_rfl) (by rfl)
        (by simp only [List.mem_cons, List.not_mem_nil, or_false, forall_eq_or_imp, forall_eq]; refine ⟨?_, ?_, ?_, ?_, ?_, ?_, ?_, ?_, ?_, ?_, ?_, ?_, ?_, ?_, ?_, ?_⟩ <;> (first | exact eqV_monoB _ _ | exact rowB_mono _ _ _ _ | exact true_monoB _))
        (fun j W W' h hb => by rcases j with _ | j <;> first | exact (Bs.grown h hb)) (HK.out) ?_ ?_ ?_
      · intro i o hi ho hc j A W hj hz hMj hk he
        simp only [List.length_cons, List.length_nil, Nat.zero_add, Nat.reduceAdd] at hi
        obtain rfl | rfl | rfl | rfl | rfl | rfl | rfl | rfl | rfl | rfl | rfl | rfl | rfl | rfl | rfl | rfl : i = 0 ∨ i = 1 ∨ i = 2 ∨ i = 3 ∨ i = 4 ∨ i = 5 ∨ i = 6 ∨ i = 7 ∨ i = 8 ∨ i = 9 ∨ i = 10 ∨ i = 11 ∨ i = 12 ∨ i = 13 ∨ i = 14 ∨ i = 15 := by omega
        · obtain rfl : j = 0 := Nat.le_zero.1 hj
          have hMs : Bs w [(g8, 35, taCells ⟨d, mo, lc, tt, m⟩), (w.heap.size + 1 + 1 + 1, 24, arrC (S)), (w.heap.size + 1 + 1, 24, arrC (S)), (w.heap.size + 1, 33, vsC (V)), (w.heap.size, 29, vsC (V))] W := hMj
          injection ho with ho; subst ho
          refine .inl ⟨wanted_free rfl, ?_⟩
          have h3 : A.tmps[3]?.getD undef = .pointer (some ⟨w.heap.size, 0, none⟩) := hk 3 (by rfl)
          exact y_load (cs := vsC (V)) rfl h3 (sits_range ((hMs.get (g := w.heap.size) (t := 29) (cs := vsC (V)) (by simp)))) Try.underlying29 rfl vsSize
        · injection ho with ho; subst ho
          refine .inl ⟨wanted_free rfl, ?_⟩
          have h8 : A.tmps[8]?.getD undef = .pointer (some ⟨g8, 0, none⟩) := hk 8 (by rfl)
          go_simp
          exact ⟨rfl, Below.refl _ _⟩
        · obtain rfl : j = 0 := Nat.le_zero.1 hj
          have hMs : Bs w [(g8, 35, taCells ⟨d, mo, lc, tt, m⟩), (w.heap.size + 1 + 1 + 1, 24, arrC (S)), (w.heap.size + 1 + 1, 24, arrC (S)), (w.heap.size + 1, 33, vsC (V)), (w.heap.size, 29, vsC (V))] W := hMj
          injection ho with ho; subst ho
          refine .inl ⟨wanted_free rfl, ?_⟩
          have h32 : A.tmps[32]?.getD undef = .pointer (some ⟨g8, 2, none⟩) := he 1 (by kernel_rfl) (by rfl)
          have c0 := (hMs.get (g := g8) (t := 35) (cs := taCells ⟨d, mo, lc, tt, m⟩) (by simp)).cell 2
          go_simp
          exact ⟨rfl, Below.refl _ _⟩
        · injection ho with ho; subst ho
          refine .inl ⟨wanted_free rfl, ?_⟩
          have h8 : A.tmps[8]?.getD undef = .pointer (some ⟨g8, 0, none⟩) := hk 8 (by rfl)
          go_simp
          exact ⟨rfl, Below.refl _ _⟩
        · obtain rfl : j = 0 := Nat.le_zero.1 hj
          have hMs : Bs w [(g8, 35, taCells ⟨d, mo, lc, tt, m⟩), (w.heap.size + 1 + 1 + 1, 24, arrC (S)), (w.heap.size + 1 + 1, 24, arrC (S)), (w.heap.size + 1, 33, vsC (V)), (w.heap.size, 29, vsC (V))] W := hMj
          injection ho with ho; subst ho
          refine .inl ⟨wanted_free rfl, ?_⟩
          have h34 : A.tmps[34]?.getD undef = .pointer (some ⟨g8, 3, none⟩) := he 3 (by kernel_rfl) (by rfl)
          have c0 := (hMs.get (g := g8) (t := 35) (cs := taCells ⟨d, mo, lc, tt, m⟩) (by simp)).cell 3
          go_simp
          exact ⟨rfl, Below.refl _ _⟩
        · injection ho with ho; subst ho
          refine .inl ⟨wanted_free rfl, ?_⟩
          have h8 : A.tmps[8]?.getD undef = .pointer (some ⟨g8, 0, none⟩) := hk 8 (by rfl)
          go_simp
          exact ⟨rfl, Below.refl _ _⟩
        · obtain rfl : j = 0 := Nat.le_zero.1 hj
          have hMs : Bs w [(g8, 35, taCells ⟨d, mo, lc, tt, m⟩), (w.heap.size + 1 + 1 + 1, 24, arrC (S)), (w.heap.size + 1 + 1, 24, arrC (S)), (w.heap.size + 1, 33, vsC (V)), (w.heap.size, 29, vsC (V))] W := hMj
          injection ho with ho; subst ho
          refine .inl ⟨wanted_free rfl, ?_⟩
          have h36 : A.tmps[36]?.getD undef = .pointer (some ⟨g8, 1, none⟩) := he 5 (by kernel_rfl) (by rfl)
          have c0 := (hMs.get (g := g8) (t := 35) (cs := taCells ⟨d, mo, lc, tt, m⟩) (by simp)).cell 1
          go_simp
          exact ⟨rfl, Below.refl _ _⟩
        · injection ho with ho; subst ho
          refine .inl ⟨wanted_free rfl, ?_⟩
          have h8 : A.tmps[8]?.getD undef = .pointer (some ⟨g8, 0, none⟩) := hk 8 (by rfl)
          go_simp
          exact ⟨rfl, Below.refl _ _⟩
        · obtain rfl : j = 0 := Nat.le_zero.1 hj
          have hMs : Bs w [(g8, 35, taCells ⟨d, mo, lc, tt, m⟩), (w.heap.size + 1 + 1 + 1, 24, arrC (S)), (w.heap.size + 1 + 1, 24, arrC (S)), (w.heap.size + 1, 33, vsC (V)), (w.heap.size, 29, vsC (V))] W := hMj
          injection ho with ho; subst ho
          refine .inl ⟨wanted_free rfl, ?_⟩
          have h38 : A.tmps[38]?.getD undef = .pointer (some ⟨g8, 4, none⟩) := he 7 (by kernel_rfl) (by rfl)
          exact y_load (cs := vwC (m)) rfl h38 (act_range ((hMs.get (g := g8) (t := 35) (cs := taCells ⟨d, mo, lc, tt, m⟩) (by simp)))) Try.underlying30 rfl rvSize
        · obtain rfl : j = 0 := Nat.le_zero.1 hj
          have hMs : Bs w [(g8, 35, taCells ⟨d, mo, lc, tt, m⟩), (w.heap.size + 1 + 1 + 1, 24, arrC (S)), (w.heap.size + 1 + 1, 24, arrC (S)), (w.heap.size + 1, 33, vsC (V)), (w.heap.size, 29, vsC (V))] W := hMj
          injection ho with ho; subst ho
          refine .inl ⟨wanted_free rfl, ?_⟩
          have h39 : A.tmps[39]?.getD undef = .agg (vwC (m)) := he 8 (by kernel_rfl) (by rfl)
          go_simp
          refine Calls.mono (view_any m W) ?_
          rintro e' w' ⟨rfl, hb⟩
          exact ⟨_, rfl, rfl, hb⟩
        · obtain rfl : j = 0 := Nat.le_zero.1 hj
          have hMs : Bs w [(g8, 35, taCells ⟨d, mo, lc, tt, m⟩), (w.heap.size + 1 + 1 + 1, 24, arrC (S)), (w.heap.size + 1 + 1, 24, arrC (S)), (w.heap.size + 1, 33, vsC (V)), (w.heap.size, 29, vsC (V))] W := hMj
          injection ho with ho; subst ho
          refine .inl ⟨wanted_free rfl, ?_⟩
          have h31 : A.tmps[31]?.getD undef = .agg (vsC (V)) := he 0 (by kernel_rfl) (by rfl)
          have h33 : A.tmps[33]?.getD undef = .int .i64 lc := he 2 (by kernel_rfl) (by rfl)
          have h35 : A.tmps[35]?.getD undef = .int .i64 tt := he 4 (by kernel_rfl) (by rfl)
          have h37 : A.tmps[37]?.getD undef = .int .u8 mo := he 6 (by kernel_rfl) (by rfl)
          have h40 : A.tmps[40]?.getD undef = .agg (vwC (m)) := he 9 (by kernel_rfl) (by rfl)
          go_simp
          refine Calls.mono (read_any V lc tt mo m W) ?_
          rintro e' w' ⟨rfl, hb⟩
          exact ⟨_, rfl, rfl, hb⟩
        · injection ho with ho; subst ho
          refine .inl ⟨wanted_free rfl, ?_⟩
          have h41 : A.tmps[41]?.getD undef = .tuple #[.agg (vsC (readV V lc tt mo m)), .bool (readOk V lc tt mo)] := he 10 (by kernel_rfl) (by rfl)
          go_simp
          exact ⟨rfl, Below.refl _ _⟩
        · injection ho with ho; subst ho
          refine .inl ⟨wanted_free rfl, ?_⟩
          have h30 : A.tmps[30]?.getD undef = .tuple #[.agg (vsC (readV V lc tt mo m)), .bool (readOk V lc tt mo)] := he 11 (by kernel_rfl) (by rfl)
          go_simp
          exact ⟨rfl, Below.refl _ _⟩
        · injection ho with ho; subst ho
          refine .inl ⟨wanted_free rfl, ?_⟩
          have h30 : A.tmps[30]?.getD undef = .tuple #[.agg (vsC (readV V lc tt mo m)), .bool (readOk V lc tt mo)] := he 11 (by kernel_rfl) (by rfl)
          go_simp
          exact ⟨rfl, Below.refl _ _⟩
        · exact absurd hc (by decide)
        · injection ho with ho; subst ho
          refine .inl ⟨wanted_free rfl, ?_⟩
          have h43 : A.tmps[43]?.getD undef = .bool (readOk V lc tt mo) := he 13 (by kernel_rfl) (by rfl)
          go_simp
          exact ⟨rfl, Below.refl _ _⟩
      · intro j i o hji ho A W hz hMj hk he
        rcases j with _ | j
        · obtain rfl : 14 = i := Option.some.inj hji
          injection ho with ho; subst ho
          refine .inl ⟨wanted_free rfl, ?_⟩
          have hMs : Bs w [(g8, 35, taCells ⟨d, mo, lc, tt, m⟩), (w.heap.size + 1 + 1 + 1, 24, arrC (S)), (w.heap.size + 1 + 1, 24, arrC (S)), (w.heap.size + 1, 33, vsC (V)), (w.heap.size, 29, vsC (V))] W := hMj
          have h3 : A.tmps[3]?.getD undef = .pointer (some ⟨w.heap.size, 0, none⟩) := hk 3 (by rfl)
          have h42 : A.tmps[42]?.getD undef = .agg (vsC (readV V lc tt mo m)) := he 12 (by kernel_rfl) (by rfl)
          exact y_store (cells := vsC (readV V lc tt mo m)) rfl h3 h42 (hMs.get (g := w.heap.size) (t := 29) (cs := vsC (V)) (by simp)) (by rw [vsC_size]; exact vsSize) (by rw [vsC_size, vsC_size]) (vsC_one _) (by have := hgz; omega) (fun _ _ => trivial) (Bs.upd (l1 := [(g8, 35, taCells ⟨d, mo, lc, tt, m⟩), (w.heap.size + 1 + 1 + 1, 24, arrC (S)), (w.heap.size + 1 + 1, 24, arrC (S)), (w.heap.size + 1, 33, vsC (V))]) (l2 := []) hMs (by omega) (by first | (simp; done) | (simp; omega)) (vsC (readV V lc tt mo m)))
        · simp at hji
      · intro xs W hz hMe hV
        have hMe : Bs w [(g8, 35, taCells ⟨d, mo, lc, tt, m⟩), (w.heap.size + 1 + 1 + 1, 24, arrC (S)), (w.heap.size + 1 + 1, 24, arrC (S)), (w.heap.size + 1, 33, vsC (V)), (w.heap.size, 29, vsC (readV V lc tt mo m))] W := hMe
        have e9 : xs 15 = .bool (readOk V lc tt mo) := hV 15 (by simp) rfl
        simp only [putM, Act.put, List.setIfInBounds_toArray, List.set_cons_zero, List.set_cons_succ, Nat.zero_add, Nat.reduceAdd, e9]
        clear hV e9
        generalize W = w3 at hMe ⊢
        have HF := Lib.hid hMe
        clear hMe hz HK hgz
        go_upto_region 13 with (fail)
        have hgz : w.heap.size + 4 ≤ w3.heap.size ∧ g8 < w3.heap.size := by
          have h1 := ((HF.out.get (g := g8) (t := 35) (cs := taCells ⟨d, mo, lc, tt, m⟩) (by simp))).lt
          omega
        refine wp_flowS1 [some 45, some 46, some 47, some 48, some 49, some 50, some 51, some 52, some 53, some 54, some 44, some 55, some 56, none, some 10] [13] [0, 0, 0, 0, 0, 0, 0, 0, 0, 0, 0, 0, 0, 0, 1] [eqV (.agg (vsC (V))), eqV (.pointer (some ⟨g8, 2, none⟩)), eqV (.int .i64 lc), eqV (.pointer (some ⟨g8, 3, none⟩)), eqV (.int .i64 tt), eqV (.pointer (some ⟨g8, 1, none⟩)), eqV (.int .u8 mo), eqV (.pointer (some ⟨g8, 4, none⟩)), eqV (.agg (vwC (m))), eqV (.tuple #[.agg (vsC (readV V lc tt mo m)), .bool (readOk V lc tt mo)]), eqV (.tuple #[.agg (vsC (readV V lc tt mo m)), .bool (readOk V lc tt mo)]), eqV (.agg (vsC (readV V lc tt mo m))), eqV (.bool (readOk V lc tt mo)), fun _ _ => True, eqV (.bool (readOk V lc tt mo))] (fun j W => match j with | 0 => Bs w [(g8, 35, taCells ⟨d, mo, lc, tt, m⟩), (w.heap.size + 1 + 1 + 1, 24, arrC (S)), (w.heap.size + 1 + 1, 24, arrC (S)), (w.heap.size + 1, 33, vsC (V)), (w.heap.size, 29, vsC (readV V lc tt mo m))] W | _ => Bs w [(g8, 35, taCells ⟨d, mo, lc, tt, m⟩), (w.heap.size + 1 + 1 + 1, 24, arrC (S)), (w.heap.size + 1 + 1, 24, arrC (S)), (w.heap.size + 1, 33, vsC (readV V lc tt mo m)), (w.heap.size, 29, vsC (readV V lc tt mo m))] W) (by kernel_rfl) (by kernel_rfl) (by kernel_rfl) (by rfl)
          (by simp only [List.mem_cons, List.not_mem_nil, or_false, forall_eq_or_imp, forall_eq]; refine ⟨?_, ?_, ?_, ?_, ?_, ?_, ?_, ?_, ?_, ?_, ?_, ?_, ?_, ?_, ?_⟩ <;> (first | exact eqV_monoB _ _ | exact rowB_mono _ _ _ _ | exact true_monoB _))
          (fun j W W' h hb => by rcases j with _ | j <;> first | exact (Bs.grown h hb)) (HF.out) ?_ ?_ ?_
        · intro i o hi ho hc j A W hj hz hMj hk he
          simp only [List.length_cons, List.length_nil, Nat.zero_add, Nat.reduceAdd] at hi
          obtain rfl | rfl | rfl | rfl | rfl | rfl | rfl | rfl | rfl | rfl | rfl | rfl | rfl | rfl | rfl : i = 0 ∨ i = 1 ∨ i = 2 ∨ i = 3 ∨ i = 4 ∨ i = 5 ∨ i = 6 ∨ i = 7 ∨ i = 8 ∨ i = 9 ∨ i = 10 ∨ i = 11 ∨ i = 12 ∨ i = 13 ∨ i = 14 := by omega
          · obtain rfl : j = 0 := hj
            have hMs : Bs w [(g8, 35, taCells ⟨d, mo, lc, tt, m⟩), (w.heap.size + 1 + 1 + 1, 24, arrC (S)), (w.heap.size + 1 + 1, 24, arrC (S)), (w.heap.size + 1, 33, vsC (V)), (w.heap.size, 29, vsC (readV V lc tt mo m))] W := hMj
            injection ho with ho; subst ho
            refine .inl ⟨wanted_free rfl, ?_⟩
            have h4 : A.tmps[4]?.getD undef = .pointer (some ⟨w.heap.size + 1, 0, none⟩) := hk 4 (by rfl)
            exact y_load (cs := vsC (V)) rfl h4 (sits_range ((hMs.get (g := w.heap.size + 1) (t := 33) (cs := vsC (V)) (by simp)))) Try.underlying33 rfl rsSize
          · injection ho with ho; subst ho
            refine .inl ⟨wanted_free rfl, ?_⟩
            have h8 : A.tmps[8]?.getD undef = .pointer (some ⟨g8, 0, none⟩) := hk 8 (by rfl)
            go_simp
            exact ⟨rfl, Below.refl _ _⟩
          · obtain rfl : j = 0 := hj
            have hMs : Bs w [(g8, 35, taCells ⟨d, mo, lc, tt, m⟩), (w.heap.size + 1 + 1 + 1, 24, arrC (S)), (w.heap.size + 1 + 1, 24, arrC (S)), (w.heap.size + 1, 33, vsC (V)), (w.heap.size, 29, vsC (readV V lc tt mo m))] W := hMj
            injection ho with ho; subst ho
            refine .inl ⟨wanted_free rfl, ?_⟩
            have h46 : A.tmps[46]?.getD undef = .pointer (some ⟨g8, 2, none⟩) := he 1 (by kernel_rfl) (by rfl)
            have c0 := (hMs.get (g := g8) (t := 35) (cs := taCells ⟨d, mo, lc, tt, m⟩) (by simp)).cell 2
            go_simp
            exact ⟨rfl, Below.refl _ _⟩
          · injection ho with ho; subst ho
            refine .inl ⟨wanted_free rfl, ?_⟩
            have h8 : A.tmps[8]?.getD undef = .pointer (some ⟨g8, 0, none⟩) := hk 8 (by rfl)
            go_simp
            exact ⟨rfl, Below.refl _ _⟩
          · obtain rfl : j = 0 := hj
            have hMs : Bs w [(g8, 35, taCells ⟨d, mo, lc, tt, m⟩), (w.heap.size + 1 + 1 + 1, 24, arrC (S)), (w.heap.size + 1 + 1, 24, arrC (S)), (w.heap.size + 1, 33, vsC (V)), (w.heap.size, 29, vsC (readV V lc tt mo m))] W := hMj
            injection ho with ho; subst ho
            refine .inl ⟨wanted_free rfl, ?_⟩
            have h48 : A.tmps[48]?.getD undef = .pointer (some ⟨g8, 3, none⟩) := he 3 (by kernel_rfl) (by rfl)
            have c0 := (hMs.get (g := g8) (t := 35) (cs := taCells ⟨d, mo, lc, tt, m⟩) (by simp)).cell 3
            go_simp
            exact ⟨rfl, Below.refl _ _⟩
          · injection ho with ho; subst ho
            refine .inl ⟨wanted_free rfl, ?_⟩
            have h8 : A.tmps[8]?.getD undef = .pointer (some ⟨g8, 0, none⟩) := hk 8 (by rfl)
            go_simp
            exact ⟨rfl, Below.refl _ _⟩
          · obtain rfl : j = 0 := hj
            have hMs : Bs w [(g8, 35, taCells ⟨d, mo, lc, tt, m⟩), (w.heap.size + 1 + 1 + 1, 24, arrC (S)), (w.heap.size + 1 + 1, 24, arrC (S)), (w.heap.size + 1, 33, vsC (V)), (w.heap.size, 29, vsC (readV V lc tt mo m))] W := hMj
            injection ho with ho; subst ho
            refine .inl ⟨wanted_free rfl, ?_⟩
            have h50 : A.tmps[50]?.getD undef = .pointer (some ⟨g8, 1, none⟩) := he 5 (by kernel_rfl) (by rfl)
            have c0 := (hMs.get (g := g8) (t := 35) (cs := taCells ⟨d, mo, lc, tt, m⟩) (by simp)).cell 1
            go_simp
            exact ⟨rfl, Below.refl _ _⟩
          · injection ho with ho; subst ho
            refine .inl ⟨wanted_free rfl, ?_⟩
            have h8 : A.tmps[8]?.getD undef = .pointer (some ⟨g8, 0, none⟩) := hk 8 (by rfl)
            go_simp
            exact ⟨rfl, Below.refl _ _⟩
          · obtain rfl : j = 0 := hj
            have hMs : Bs w [(g8, 35, taCells ⟨d, mo, lc, tt, m⟩), (w.heap.size + 1 + 1 + 1, 24, arrC (S)), (w.heap.size + 1 + 1, 24, arrC (S)), (w.heap.size + 1, 33, vsC (V)), (w.heap.size, 29, vsC (readV V lc tt mo m))] W := hMj
            injection ho with ho; subst ho
            refine .inl ⟨wanted_free rfl, ?_⟩
            have h52 : A.tmps[52]?.getD undef = .pointer (some ⟨g8, 4, none⟩) := he 7 (by kernel_rfl) (by rfl)
            exact y_load (cs := vwC (m)) rfl h52 (act_range ((hMs.get (g := g8) (t := 35) (cs := taCells ⟨d, mo, lc, tt, m⟩) (by simp)))) Try.underlying30 rfl rvSize
          · obtain rfl : j = 0 := hj
            have hMs : Bs w [(g8, 35, taCells ⟨d, mo, lc, tt, m⟩), (w.heap.size + 1 + 1 + 1, 24, arrC (S)), (w.heap.size + 1 + 1, 24, arrC (S)), (w.heap.size + 1, 33, vsC (V)), (w.heap.size, 29, vsC (readV V lc tt mo m))] W := hMj
            injection ho with ho; subst ho
            refine .inl ⟨wanted_free rfl, ?_⟩
            have h45 : A.tmps[45]?.getD undef = .agg (vsC (V)) := he 0 (by kernel_rfl) (by rfl)
            have h47 : A.tmps[47]?.getD undef = .int .i64 lc := he 2 (by kernel_rfl) (by rfl)
            have h49 : A.tmps[49]?.getD undef = .int .i64 tt := he 4 (by kernel_rfl) (by rfl)
            have h51 : A.tmps[51]?.getD undef = .int .u8 mo := he 6 (by kernel_rfl) (by rfl)
            have h53 : A.tmps[53]?.getD undef = .agg (vwC (m)) := he 8 (by kernel_rfl) (by rfl)
            go_simp
            refine Calls.mono (HD.out W) ?_
            rintro e' w' ⟨rfl, hb⟩
            exact ⟨_, rfl, rfl, hb⟩
          · injection ho with ho; subst ho
            refine .inl ⟨wanted_free rfl, ?_⟩
            have h54 : A.tmps[54]?.getD undef = .tuple #[.agg (vsC (readV V lc tt mo m)), .bool (readOk V lc tt mo)] := he 9 (by kernel_rfl) (by rfl)
            go_simp
            exact ⟨rfl, Below.refl _ _⟩
          · injection ho with ho; subst ho
            refine .inl ⟨wanted_free rfl, ?_⟩
            have h44 : A.tmps[44]?.getD undef = .tuple #[.agg (vsC (readV V lc tt mo m)), .bool (readOk V lc tt mo)] := he 10 (by kernel_rfl) (by rfl)
            go_simp
            exact ⟨rfl, Below.refl _ _⟩
          · injection ho with ho; subst ho
            refine .inl ⟨wanted_free rfl, ?_⟩
            have h44 : A.tmps[44]?.getD undef = .tuple #[.agg (vsC (readV V lc tt mo m)), .bool (readOk V lc tt mo)] := he 10 (by kernel_rfl) (by rfl)
            go_simp
            exact ⟨rfl, Below.refl _ _⟩
          · exact absurd hc (by decide)
          · injection ho with ho; subst ho
            refine .inl ⟨wanted_free rfl, ?_⟩
            have h56 : A.tmps[56]?.getD undef = .bool (readOk V lc tt mo) := he 12 (by kernel_rfl) (by rfl)
            go_simp
            exact ⟨rfl, Below.refl _ _⟩
        · intro j i o hji ho A W hz hMj hk he
          rcases j with _ | j
          · obtain rfl : 13 = i := Option.some.inj hji
            injection ho with ho; subst ho
            refine .inl ⟨wanted_free rfl, ?_⟩
            have hMs : Bs w [(g8, 35, taCells ⟨d, mo, lc, tt, m⟩), (w.heap.size + 1 + 1 + 1, 24, arrC (S)), (w.heap.size + 1 + 1, 24, arrC (S)), (w.heap.size + 1, 33, vsC (V)), (w.heap.size, 29, vsC (readV V lc tt mo m))] W := hMj
            have h4 : A.tmps[4]?.getD undef = .pointer (some ⟨w.heap.size + 1, 0, none⟩) := hk 4 (by rfl)
            have h55 : A.tmps[55]?.getD undef = .agg (vsC (readV V lc tt mo m)) := he 11 (by kernel_rfl) (by rfl)
            exact y_store (cells := vsC (readV V lc tt mo m)) rfl h4 h55 (hMs.get (g := w.heap.size + 1) (t := 33) (cs := vsC (V)) (by simp)) (by rw [vsC_size]; exact rsSize) (by rw [vsC_size, vsC_size]) (vsC_one _) (by have := hgz; omega) (fun _ _ => trivial) (Bs.upd (l1 := [(g8, 35, taCells ⟨d, mo, lc, tt, m⟩), (w.heap.size + 1 + 1 + 1, 24, arrC (S)), (w.heap.size + 1 + 1, 24, arrC (S))]) (l2 := [(w.heap.size, 29, vsC (readV V lc tt mo m))]) hMs (by omega) (by first | (simp; done) | (simp; omega)) (vsC (readV V lc tt mo m)))
          · simp at hji
        · intro xs W hz hMe hV
          have hMe : Bs w [(g8, 35, taCells ⟨d, mo, lc, tt, m⟩), (w.heap.size + 1 + 1 + 1, 24, arrC (S)), (w.heap.size + 1 + 1, 24, arrC (S)), (w.heap.size + 1, 33, vsC (readV V lc tt mo m)), (w.heap.size, 29, vsC (readV V lc tt mo m))] W := hMe
          have e10 : xs 14 = .bool (readOk V lc tt mo) := hV 14 (by simp) rfl
          simp only [putM, Act.put, List.setIfInBounds_toArray, List.set_cons_zero, List.set_cons_succ, Nat.zero_add, Nat.reduceAdd, e10]
          clear hV e10
          generalize W = w4 at hMe ⊢
          have HG := Lib.hid hMe
          clear hMe hz HF hgz HD
          generalize readOk V lc tt mo = ok
          go_upto_region 24 with (fail)
          have HQ1 : Hid (∀ W, (binOp .neq 29 (.agg (vsC (readV V lc tt mo m))) (.agg (vsC (readV V lc tt mo m)))).run Try.prog W = .ok (.bool false) W) := Lib.hid (fun W => by have h := neq_vs (readV V lc tt mo m) (readV V lc tt mo m) W; rw [sameV_self] at h; exact h)
          have HQ2 : Hid (∀ W, (binOp .neq 24 (arr (S)) (arr (S))).run Try.prog W = .ok (.bool false) W) := Lib.hid (fun W => by have h := neq_arr (S) (S) W; rw [same_self] at h; exact h)
          refine wp_flowM [some 112, some 113, some 114, some 115, some 116, some 117, some 118, some 119, some 120, some 121, some 122, some 123, some 124, some 125] [] [0, 0, 0, 0, 0, 0, 0, 0, 0, 0, 0, 0, 0, 0] [eqV (.bool ok), eqV (.bool ok), eqV (.bool false), eqV (.bool false), eqV (.agg (vsC (readV V lc tt mo m))), eqV (.agg (vsC (readV V lc tt mo m))), eqV (.agg (vsC (readV V lc tt mo m))), eqV (.bool false), eqV (.bool false), eqV (.bool false), eqV (arr (S)), eqV (arr (S)), eqV (.bool false), eqV (.bool false)] (fun _ W => Bs w [(g8, 35, taCells ⟨d, mo, lc, tt, m⟩), (w.heap.size + 1 + 1 + 1, 24, arrC (S)), (w.heap.size + 1 + 1, 24, arrC (S)), (w.heap.size + 1, 33, vsC (readV V lc tt mo m)), (w.heap.size, 29, vsC (readV V lc tt mo m))] W) (by kernel_rfl) (by kernel_rfl) (by kernel_rfl) (by rfl)
            (by simp only [List.mem_cons, List.not_mem_nil, or_false, forall_eq_or_imp, forall_eq]; refine ⟨?_, ?_, ?_, ?_, ?_, ?_, ?_, ?_, ?_, ?_, ?_, ?_, ?_, ?_⟩ <;> (first | exact eqV_monoB _ _ | exact rowB_mono _ _ _ _ | exact true_monoB _))
            (fun j W W' h hb => by exact (Bs.grown h hb)) (HG.out) ?_ ?_ ?_
          · intro i o hi ho hc j A W hj hz hMj hk he
            simp only [List.length_cons, List.length_nil, Nat.zero_add, Nat.reduceAdd] at hi
            obtain rfl | rfl | rfl | rfl | rfl | rfl | rfl | rfl | rfl | rfl | rfl | rfl | rfl | rfl : i = 0 ∨ i = 1 ∨ i = 2 ∨ i = 3 ∨ i = 4 ∨ i = 5 ∨ i = 6 ∨ i = 7 ∨ i = 8 ∨ i = 9 ∨ i = 10 ∨ i = 11 ∨ i = 12 ∨ i = 13 := by omega
            · injection ho with ho; subst ho
              refine .inl ⟨wanted_free rfl, ?_⟩
              have h9 : A.tmps[9]?.getD undef = .bool ok := hk 9 (by rfl)
              go_simp
              exact ⟨rfl, Below.refl _ _⟩
            · injection ho with ho; subst ho
              refine .inl ⟨wanted_free rfl, ?_⟩
              have h10 : A.tmps[10]?.getD undef = .bool ok := hk 10 (by rfl)
              go_simp
              exact ⟨rfl, Below.refl _ _⟩
            · injection ho with ho; subst ho
              refine .inl ⟨wanted_free rfl, ?_⟩
              have h112 : A.tmps[112]?.getD undef = .bool ok := he 0 (by kernel_rfl) (by rfl)
              have h113 : A.tmps[113]?.getD undef = .bool ok := he 1 (by kernel_rfl) (by rfl)
              go_simp
              exact ⟨rfl, Below.refl _ _⟩
            · injection ho with ho; subst ho
              refine .inl ⟨wanted_free rfl, ?_⟩
              have h114 : A.tmps[114]?.getD undef = .bool false := he 2 (by kernel_rfl) (by rfl)
              go_simp
              exact ⟨rfl, Below.refl _ _⟩
            · obtain rfl : j = 0 := Nat.le_zero.1 hj
              have hMs : Bs w [(g8, 35, taCells ⟨d, mo, lc, tt, m⟩), (w.heap.size + 1 + 1 + 1, 24, arrC (S)), (w.heap.size + 1 + 1, 24, arrC (S)), (w.heap.size + 1, 33, vsC (readV V lc tt mo m)), (w.heap.size, 29, vsC (readV V lc tt mo m))] W := hMj
              injection ho with ho; subst ho
              have hg : A.tmps[115]?.getD undef = .bool false := he 3 (by kernel_rfl) (by rfl)
              refine .inl ⟨wanted_yes (d := 115) rfl (by kernel_rfl) hg, ?_⟩
              have h3 : A.tmps[3]?.getD undef = .pointer (some ⟨w.heap.size, 0, none⟩) := hk 3 (by rfl)
              exact y_load (cs := vsC (readV V lc tt mo m)) rfl h3 (sits_range ((hMs.get (g := w.heap.size) (t := 29) (cs := vsC (readV V lc tt mo m)) (by simp)))) Try.underlying29 rfl vsSize
            · obtain rfl : j = 0 := Nat.le_zero.1 hj
              have hMs : Bs w [(g8, 35, taCells ⟨d, mo, lc, tt, m⟩), (w.heap.size + 1 + 1 + 1, 24, arrC (S)), (w.heap.size + 1 + 1, 24, arrC (S)), (w.heap.size + 1, 33, vsC (readV V lc tt mo m)), (w.heap.size, 29, vsC (readV V lc tt mo m))] W := hMj
              injection ho with ho; subst ho
              have hg : A.tmps[115]?.getD undef = .bool false := he 3 (by kernel_rfl) (by rfl)
              refine .inl ⟨wanted_yes (d := 115) rfl (by kernel_rfl) hg, ?_⟩
              have h4 : A.tmps[4]?.getD undef = .pointer (some ⟨w.heap.size + 1, 0, none⟩) := hk 4 (by rfl)
              exact y_load (cs := vsC (readV V lc tt mo m)) rfl h4 (sits_range ((hMs.get (g := w.heap.size + 1) (t := 33) (cs := vsC (readV V lc tt mo m)) (by simp)))) Try.underlying33 rfl rsSize
            · obtain rfl : j = 0 := Nat.le_zero.1 hj
              have hMs : Bs w [(g8, 35, taCells ⟨d, mo, lc, tt, m⟩), (w.heap.size + 1 + 1 + 1, 24, arrC (S)), (w.heap.size + 1 + 1, 24, arrC (S)), (w.heap.size + 1, 33, vsC (readV V lc tt mo m)), (w.heap.size, 29, vsC (readV V lc tt mo m))] W := hMj
              injection ho with ho; subst ho
              have hg : A.tmps[115]?.getD undef = .bool false := he 3 (by kernel_rfl) (by rfl)
              refine .inl ⟨wanted_yes (d := 115) rfl (by kernel_rfl) hg, ?_⟩
              have h117 : A.tmps[117]?.getD undef = .agg (vsC (readV V lc tt mo m)) := he 5 (by kernel_rfl) (by rfl)
              go_simp
              refine Calls.mono (of_any (readV V lc tt mo m) W) ?_
              rintro e' w' ⟨rfl, hb⟩
              exact ⟨_, rfl, rfl, hb⟩
            · injection ho with ho; subst ho
              have hg : A.tmps[115]?.getD undef = .bool false := he 3 (by kernel_rfl) (by rfl)
              refine .inl ⟨wanted_yes (d := 115) rfl (by kernel_rfl) hg, ?_⟩
              have h116 : A.tmps[116]?.getD undef = .agg (vsC (readV V lc tt mo m)) := he 4 (by kernel_rfl) (by rfl)
              have h118 : A.tmps[118]?.getD undef = .agg (vsC (readV V lc tt mo m)) := he 6 (by kernel_rfl) (by rfl)
              have hq := HQ1.out W
              have hgd : ∀ x y, (eqGuard .neq 29 x y (Value.agg (vsC (readV V lc tt mo m))) (Value.agg (vsC (readV V lc tt mo m)))).run Try.prog W = .ok () W := fun x y => guard_vs .neq x y (readV V lc tt mo m) (readV V lc tt mo m) W
              generalize Value.agg (vsC (readV V lc tt mo m)) = X at h116 h118 hq hgd
              go_simp
              exact ⟨rfl, Below.refl _ _⟩
            · injection ho with ho; subst ho
              refine .inl ⟨wanted_free rfl, ?_⟩
              have h115 : A.tmps[115]?.getD undef = .bool false := he 3 (by kernel_rfl) (by rfl)
              have h119 : A.tmps[119]?.getD undef = .bool false := he 7 (by kernel_rfl) (by rfl)
              go_simp
              exact ⟨rfl, Below.refl _ _⟩
            · injection ho with ho; subst ho
              refine .inl ⟨wanted_free rfl, ?_⟩
              have h120 : A.tmps[120]?.getD undef = .bool false := he 8 (by kernel_rfl) (by rfl)
              go_simp
              exact ⟨rfl, Below.refl _ _⟩
            · obtain rfl : j = 0 := Nat.le_zero.1 hj
              have hMs : Bs w [(g8, 35, taCells ⟨d, mo, lc, tt, m⟩), (w.heap.size + 1 + 1 + 1, 24, arrC (S)), (w.heap.size + 1 + 1, 24, arrC (S)), (w.heap.size + 1, 33, vsC (readV V lc tt mo m)), (w.heap.size, 29, vsC (readV V lc tt mo m))] W := hMj
              injection ho with ho; subst ho
              have hg : A.tmps[121]?.getD undef = .bool false := he 9 (by kernel_rfl) (by rfl)
              refine .inl ⟨wanted_yes (d := 121) rfl (by kernel_rfl) hg, ?_⟩
              have h5 : A.tmps[5]?.getD undef = .pointer (some ⟨w.heap.size + 1 + 1, 0, none⟩) := hk 5 (by rfl)
              have c0 := ((hMs.get (g := w.heap.size + 1 + 1) (t := 24) (cs := arrC (S)) (by simp))).cell 0
              have c1 := ((hMs.get (g := w.heap.size + 1 + 1) (t := 24) (cs := arrC (S)) (by simp))).cell 1
              have c2 := ((hMs.get (g := w.heap.size + 1 + 1) (t := 24) (cs := arrC (S)) (by simp))).cell 2
              have c3 := ((hMs.get (g := w.heap.size + 1 + 1) (t := 24) (cs := arrC (S)) (by simp))).cell 3
              go_simp
              exact ⟨rfl, Below.refl _ _⟩
            · obtain rfl : j = 0 := Nat.le_zero.1 hj
              have hMs : Bs w [(g8, 35, taCells ⟨d, mo, lc, tt, m⟩), (w.heap.size + 1 + 1 + 1, 24, arrC (S)), (w.heap.size + 1 + 1, 24, arrC (S)), (w.heap.size + 1, 33, vsC (readV V lc tt mo m)), (w.heap.size, 29, vsC (readV V lc tt mo m))] W := hMj
              injection ho with ho; subst ho
              have hg : A.tmps[121]?.getD undef = .bool false := he 9 (by kernel_rfl) (by rfl)
              refine .inl ⟨wanted_yes (d := 121) rfl (by kernel_rfl) hg, ?_⟩
              have h6 : A.tmps[6]?.getD undef = .pointer (some ⟨w.heap.size + 1 + 1 + 1, 0, none⟩) := hk 6 (by rfl)
              have c0 := ((hMs.get (g := w.heap.size + 1 + 1 + 1) (t := 24) (cs := arrC (S)) (by simp))).cell 0
              have c1 := ((hMs.get (g := w.heap.size + 1 + 1 + 1) (t := 24) (cs := arrC (S)) (by simp))).cell 1
              have c2 := ((hMs.get (g := w.heap.size + 1 + 1 + 1) (t := 24) (cs := arrC (S)) (by simp))).cell 2
              have c3 := ((hMs.get (g := w.heap.size + 1 + 1 + 1) (t := 24) (cs := arrC (S)) (by simp))).cell 3
              go_simp
              exact ⟨rfl, Below.refl _ _⟩
            · injection ho with ho; subst ho
              have hg : A.tmps[121]?.getD undef = .bool false := he 9 (by kernel_rfl) (by rfl)
              refine .inl ⟨wanted_yes (d := 121) rfl (by kernel_rfl) hg, ?_⟩
              have h122 : A.tmps[122]?.getD undef = arr (S) := he 10 (by kernel_rfl) (by rfl)
              have h123 : A.tmps[123]?.getD undef = arr (S) := he 11 (by kernel_rfl) (by rfl)
              have hq := HQ2.out W
              have hgd : ∀ x y, (eqGuard .neq 24 x y (arr (S)) (arr (S))).run Try.prog W = .ok () W := fun x y => guard_arr .neq x y (S) (S) W
              generalize arr (S) = X at h122 h123 hq hgd
              go_simp
              exact ⟨rfl, Below.refl _ _⟩
            · injection ho with ho; subst ho
              refine .inl ⟨wanted_free rfl, ?_⟩
              have h121 : A.tmps[121]?.getD undef = .bool false := he 9 (by kernel_rfl) (by rfl)
              have h124 : A.tmps[124]?.getD undef = .bool false := he 12 (by kernel_rfl) (by rfl)
              go_simp
              exact ⟨rfl, Below.refl _ _⟩
          · intro j i o hji ho A W hz hMj hk he
            simp at hji
          · intro xs W hz hMe hV
            have hMe : Bs w [(g8, 35, taCells ⟨d, mo, lc, tt, m⟩), (w.heap.size + 1 + 1 + 1, 24, arrC (S)), (w.heap.size + 1 + 1, 24, arrC (S)), (w.heap.size + 1, 33, vsC (readV V lc tt mo m)), (w.heap.size, 29, vsC (readV V lc tt mo m))] W := hMe
            have e125 : xs 13 = .bool false := hV 13 (by simp) rfl
            simp only [putM, Act.put, List.setIfInBounds_toArray, List.set_cons_zero, List.set_cons_succ, Nat.zero_add, Nat.reduceAdd, e125]
            clear hV e125
            generalize W = w9 at hMe ⊢
            have HE := Lib.hid (hMe.mono (l' := [(w.heap.size + 1 + 1 + 1, 24, arrC (S)), (w.heap.size + 1 + 1, 24, arrC (S)), (w.heap.size + 1, 33, vsC (readV V lc tt mo m)), (w.heap.size, 29, vsC (readV V lc tt mo m))]) (fun p hp => List.mem_append_right [(g8, 35, taCells ⟨d, mo, lc, tt, m⟩)] hp))
            clear hMe hz HG HQ1 HQ2
            go_wp2_with fail
            go_roundg (l.length - (i + 1))
            case measure => have := HL.out; omega
            case rel => exact ⟨i + 1, readV V lc tt mo m, S, by have := HL.out; omega, rfl, by go_num, Lib.hid ⟨HE.out, nn_read HN.out lc tt mo m⟩⟩
    ·
      have j1 : ¬ (i : Int) < (l.length : Int) := by omega
      have s3 := (HJ.out.1.get (g := w.heap.size) (t := 29) (cs := vsC (V)) (by simp))
      have HK := Lib.hid HJ.out.1
      clear HJ hlt hi
      go_wp2_with (refine wpList_load_row rfl 29 _ rfl _ rfl _ (vsC V) (0, 0) _ s3 Try.underlying29 rfl (by rw [vsC_size]; exact vsSize) ?_)
      refine (map6_any xor5_says V _ trivial).mono ?_
      rintro e w1 ⟨rfl, hb⟩
      have H1 := Lib.hid (HK.out.grown hb)
      clear hb s3 HK
      go_upto_region 27 with (refine wpList_store_row rfl 29 _ _ rfl (w1.heap.size) (vsC fun k => mapsF xor5 (V k)) rfl rfl 29 zero48 (Sits.new _ _ _) (by rw [vsC_size]; exact vsSize) (zero48_size.trans (vsC_size _).symm) (vsC_one _) ?_)
      have H2 := Lib.hid (H1.out.add 29 zero48 (vsC fun k => mapsF xor5 (V k)))
      generalize (w1.alloc (.cells zero48 29)).setRow w1.heap.size (vsC fun k => mapsF xor5 (V k)) = w2 at H2 ⊢
      generalize w1.heap.size = g13 at H2 ⊢
      clear H1
      refine wp_flowQ [128, 129, 130, 131, 132, 133, 134, 135, 136, 137, 138, 139, 140, 141, 142, 143, 144, 145, 146, 147, 148, 149, 150, 151, 152, 153, 154, 155, 156, 157, 158, 159, 160, 161, 162, 163, 164, 165, 166] [eqV (.pointer (some ⟨g13, 0, none⟩)), eqV (.pointer (some ⟨g13, 4, none⟩)), eqV (.pointer (some ⟨g13, 5, none⟩)), eqV (.int .i64 (bits .xor .i64 (V 0 5) 5)), eqV (.pointer (some ⟨w.heap.size, 0, none⟩)), eqV (.pointer (some ⟨w.heap.size, 4, none⟩)), eqV (.pointer (some ⟨w.heap.size, 5, none⟩)), eqV (.int .i64 (V 0 5)), eqV (.int .i64 (bits .xor .i64 (V 0 5) 5)), eqV (.bool true), eqV (.bool true), eqV (.pointer (some ⟨g13, 8, none⟩)), eqV (.pointer (some ⟨g13, 8, none⟩)), eqV (.pointer (some ⟨g13, 10, none⟩)), eqV (.int .i64 (bits .xor .i64 (V 1 2) 5)), eqV (.pointer (some ⟨w.heap.size, 8, none⟩)), eqV (.pointer (some ⟨w.heap.size, 8, none⟩)), eqV (.pointer (some ⟨w.heap.size, 10, none⟩)), eqV (.int .i64 (V 1 2)), eqV (.int .i64 (bits .xor .i64 (V 1 2) 5)), eqV (.bool true), eqV (.bool true), eqV (.bool true), eqV (.pointer (some ⟨g13, 16, none⟩)), eqV (.pointer (some ⟨g13, 40, none⟩)), eqV (.pointer (some ⟨g13, 44, none⟩)), eqV (.pointer (some ⟨g13, 44, none⟩)), eqV (.int .i64 (bits .xor .i64 (V 5 4) 5)), eqV (.pointer (some ⟨w.heap.size, 16, none⟩)), eqV (.pointer (some ⟨w.heap.size, 40, none⟩)), eqV (.pointer (some ⟨w.heap.size, 44, none⟩)), eqV (.pointer (some ⟨w.heap.size, 44, none⟩)), eqV (.int .i64 (V 5 4)), eqV (.int .i64 (bits .xor .i64 (V 5 4) 5)), eqV (.bool true), eqV (.bool true), eqV (.bool true), eqV (.bool true), eqV (.bool true)] (by kernel_rfl) (by kernel_rfl) (by kernel_rfl) (by kernel_rfl) (by rfl)
        (by simp only [List.mem_cons, List.not_mem_nil, or_false, forall_eq_or_imp, forall_eq]; refine ⟨?_, ?_, ?_, ?_, ?_, ?_, ?_, ?_, ?_, ?_, ?_, ?_, ?_, ?_, ?_, ?_, ?_, ?_, ?_, ?_, ?_, ?_, ?_, ?_, ?_, ?_, ?_, ?_, ?_, ?_, ?_, ?_, ?_, ?_, ?_, ?_, ?_, ?_, ?_⟩ <;> (first | exact eqV_mono _ | exact rowV_mono _ _ _)) ?_ ?_
      · intro i o hi ho A W hW hk he
        simp only [List.length_cons, List.length_nil, Nat.zero_add, Nat.reduceAdd] at hi
        obtain rfl | rfl | rfl | rfl | rfl | rfl | rfl | rfl | rfl | rfl | rfl | rfl | rfl | rfl | rfl | rfl | rfl | rfl | rfl | rfl | rfl | rfl | rfl | rfl | rfl | rfl | rfl | rfl | rfl | rfl | rfl | rfl | rfl | rfl | rfl | rfl | rfl | rfl | rfl : i = 0 ∨ i = 1 ∨ i = 2 ∨ i = 3 ∨ i = 4 ∨ i = 5 ∨ i = 6 ∨ i = 7 ∨ i = 8 ∨ i = 9 ∨ i = 10 ∨ i = 11 ∨ i = 12 ∨ i = 13 ∨ i = 14 ∨ i = 15 ∨ i = 16 ∨ i = 17 ∨ i = 18 ∨ i = 19 ∨ i = 20 ∨ i = 21 ∨ i = 22 ∨ i = 23 ∨ i = 24 ∨ i = 25 ∨ i = 26 ∨ i = 27 ∨ i = 28 ∨ i = 29 ∨ i = 30 ∨ i = 31 ∨ i = 32 ∨ i = 33 ∨ i = 34 ∨ i = 35 ∨ i = 36 ∨ i = 37 ∨ i = 38 := by omega
        · injection ho with ho; subst ho
          refine .inl ⟨wanted_free rfl, ?_⟩
          have h13 : A.tmps[13]?.getD undef = .pointer (some ⟨g13, 0, none⟩) := hk 13 (by rfl)
          go_simp
          exact ⟨rfl, Below.refl _ _⟩
        · injection ho with ho; subst ho
          refine .inl ⟨wanted_free rfl, ?_⟩
          have h128 : A.tmps[128]?.getD undef = .pointer (some ⟨g13, 0, none⟩) := he 0 (by kernel_rfl)
          go_simp
          exact ⟨rfl, Below.refl _ _⟩
        · injection ho with ho; subst ho
          refine .inl ⟨wanted_free rfl, ?_⟩
          have h129 : A.tmps[129]?.getD undef = .pointer (some ⟨g13, 4, none⟩) := he 1 (by kernel_rfl)
          go_simp
          exact ⟨rfl, Below.refl _ _⟩
        · injection ho with ho; subst ho
          refine .inl ⟨wanted_free rfl, ?_⟩
          have h130 : A.tmps[130]?.getD undef = .pointer (some ⟨g13, 5, none⟩) := he 2 (by kernel_rfl)
          have c0 := ((((H2.out.grown hW).get (g := g13) (t := 29) (cs := vsC fun k => mapsF xor5 (V k)) (by simp)).cell 5).trans (vsC_at (fun k => mapsF xor5 (V k)) 0 5 5 (by omega) (by omega) rfl) : W.cell? ⟨g13, 5, none⟩ = some (.int .i64 (bits .xor .i64 (V 0 5) 5)))
          go_simp
          exact ⟨rfl, Below.refl _ _⟩
        · injection ho with ho; subst ho
          refine .inl ⟨wanted_free rfl, ?_⟩
          have h3 : A.tmps[3]?.getD undef = .pointer (some ⟨w.heap.size, 0, none⟩) := hk 3 (by rfl)
          go_simp
          exact ⟨rfl, Below.refl _ _⟩
        · injection ho with ho; subst ho
          refine .inl ⟨wanted_free rfl, ?_⟩
          have h132 : A.tmps[132]?.getD undef = .pointer (some ⟨w.heap.size, 0, none⟩) := he 4 (by kernel_rfl)
          go_simp
          exact ⟨rfl, Below.refl _ _⟩
        · injection ho with ho; subst ho
          refine .inl ⟨wanted_free rfl, ?_⟩
          have h133 : A.tmps[133]?.getD undef = .pointer (some ⟨w.heap.size, 4, none⟩) := he 5 (by kernel_rfl)
          go_simp
          exact ⟨rfl, Below.refl _ _⟩
        · injection ho with ho; subst ho
          refine .inl ⟨wanted_free rfl, ?_⟩
          have h134 : A.tmps[134]?.getD undef = .pointer (some ⟨w.heap.size, 5, none⟩) := he 6 (by kernel_rfl)
          have c0 := (((H2.out.grown hW).get (g := w.heap.size) (t := 29) (cs := vsC (V)) (by simp)).cell 5).trans (vsC_at V 0 5 5 (by omega) (by omega) rfl)
          go_simp
          exact ⟨rfl, Below.refl _ _⟩
        · injection ho with ho; subst ho
          refine .inl ⟨wanted_free rfl, ?_⟩
          have h135 : A.tmps[135]?.getD undef = .int .i64 (V 0 5) := he 7 (by kernel_rfl)
          go_simp
          exact ⟨rfl, Below.refl _ _⟩
        · injection ho with ho; subst ho
          refine .inl ⟨wanted_free rfl, ?_⟩
          have h131 : A.tmps[131]?.getD undef = .int .i64 (bits .xor .i64 (V 0 5) 5) := he 3 (by kernel_rfl)
          have h136 : A.tmps[136]?.getD undef = .int .i64 (bits .xor .i64 (V 0 5) 5) := he 8 (by kernel_rfl)
          go_simp
          exact ⟨rfl, Below.refl _ _⟩
        · injection ho with ho; subst ho
          refine .inl ⟨wanted_free rfl, ?_⟩
          have h137 : A.tmps[137]?.getD undef = .bool true := he 9 (by kernel_rfl)
          go_simp
          exact ⟨rfl, Below.refl _ _⟩
        · injection ho with ho; subst ho
          have hg : A.tmps[138]?.getD undef = .bool true := he 10 (by kernel_rfl)
          refine .inl ⟨wanted_yes (d := 138) rfl (by kernel_rfl) hg, ?_⟩
          have h13 : A.tmps[13]?.getD undef = .pointer (some ⟨g13, 0, none⟩) := hk 13 (by rfl)
          go_simp
          exact ⟨rfl, Below.refl _ _⟩
        · injection ho with ho; subst ho
          have hg : A.tmps[138]?.getD undef = .bool true := he 10 (by kernel_rfl)
          refine .inl ⟨wanted_yes (d := 138) rfl (by kernel_rfl) hg, ?_⟩
          have h139 : A.tmps[139]?.getD undef = .pointer (some ⟨g13, 8, none⟩) := he 11 (by kernel_rfl)
          go_simp
          exact ⟨rfl, Below.refl _ _⟩
        · injection ho with ho; subst ho
          have hg : A.tmps[138]?.getD undef = .bool true := he 10 (by kernel_rfl)
          refine .inl ⟨wanted_yes (d := 138) rfl (by kernel_rfl) hg, ?_⟩
          have h140 : A.tmps[140]?.getD undef = .pointer (some ⟨g13, 8, none⟩) := he 12 (by kernel_rfl)
          go_simp
          exact ⟨rfl, Below.refl _ _⟩
        · injection ho with ho; subst ho
          have hg : A.tmps[138]?.getD undef = .bool true := he 10 (by kernel_rfl)
          refine .inl ⟨wanted_yes (d := 138) rfl (by kernel_rfl) hg, ?_⟩
          have h141 : A.tmps[141]?.getD undef = .pointer (some ⟨g13, 10, none⟩) := he 13 (by kernel_rfl)
          have c0 := ((((H2.out.grown hW).get (g := g13) (t := 29) (cs := vsC fun k => mapsF xor5 (V k)) (by simp)).cell 10).trans (vsC_at (fun k => mapsF xor5 (V k)) 1 2 10 (by omega) (by omega) rfl) : W.cell? ⟨g13, 10, none⟩ = some (.int .i64 (bits .xor .i64 (V 1 2) 5)))
          go_simp
          exact ⟨rfl, Below.refl _ _⟩
        · injection ho with ho; subst ho
          have hg : A.tmps[138]?.getD undef = .bool true := he 10 (by kernel_rfl)
          refine .inl ⟨wanted_yes (d := 138) rfl (by kernel_rfl) hg, ?_⟩
          have h3 : A.tmps[3]?.getD undef = .pointer (some ⟨w.heap.size, 0, none⟩) := hk 3 (by rfl)
          go_simp
          exact ⟨rfl, Below.refl _ _⟩
        · injection ho with ho; subst ho
          have hg : A.tmps[138]?.getD undef = .bool true := he 10 (by kernel_rfl)
          refine .inl ⟨wanted_yes (d := 138) rfl (by kernel_rfl) hg, ?_⟩
          have h143 : A.tmps[143]?.getD undef = .pointer (some ⟨w.heap.size, 8, none⟩) := he 15 (by kernel_rfl)
          go_simp
          exact ⟨rfl, Below.refl _ _⟩
        · injection ho with ho; subst ho
          have hg : A.tmps[138]?.getD undef = .bool true := he 10 (by kernel_rfl)
          refine .inl ⟨wanted_yes (d := 138) rfl (by kernel_rfl) hg, ?_⟩
          have h144 : A.tmps[144]?.getD undef = .pointer (some ⟨w.heap.size, 8, none⟩) := he 16 (by kernel_rfl)
          go_simp
          exact ⟨rfl, Below.refl _ _⟩
        · injection ho with ho; subst ho
          have hg : A.tmps[138]?.getD undef = .bool true := he 10 (by kernel_rfl)
          refine .inl ⟨wanted_yes (d := 138) rfl (by kernel_rfl) hg, ?_⟩
          have h145 : A.tmps[145]?.getD undef = .pointer (some ⟨w.heap.size, 10, none⟩) := he 17 (by kernel_rfl)
          have c0 := (((H2.out.grown hW).get (g := w.heap.size) (t := 29) (cs := vsC (V)) (by simp)).cell 10).trans (vsC_at V 1 2 10 (by omega) (by omega) rfl)
          go_simp
          exact ⟨rfl, Below.refl _ _⟩
        · injection ho with ho; subst ho
          have hg : A.tmps[138]?.getD undef = .bool true := he 10 (by kernel_rfl)
          refine .inl ⟨wanted_yes (d := 138) rfl (by kernel_rfl) hg, ?_⟩
          have h146 : A.tmps[146]?.getD undef = .int .i64 (V 1 2) := he 18 (by kernel_rfl)
          go_simp
          exact ⟨rfl, Below.refl _ _⟩
        · injection ho with ho; subst ho
          have hg : A.tmps[138]?.getD undef = .bool true := he 10 (by kernel_rfl)
          refine .inl ⟨wanted_yes (d := 138) rfl (by kernel_rfl) hg, ?_⟩
          have h142 : A.tmps[142]?.getD undef = .int .i64 (bits .xor .i64 (V 1 2) 5) := he 14 (by kernel_rfl)
          have h147 : A.tmps[147]?.getD undef = .int .i64 (bits .xor .i64 (V 1 2) 5) := he 19 (by kernel_rfl)
          go_simp
          exact ⟨rfl, Below.refl _ _⟩
        · injection ho with ho; subst ho
          refine .inl ⟨wanted_free rfl, ?_⟩
          have h138 : A.tmps[138]?.getD undef = .bool true := he 10 (by kernel_rfl)
          have h148 : A.tmps[148]?.getD undef = .bool true := he 20 (by kernel_rfl)
          go_simp
          exact ⟨rfl, Below.refl _ _⟩
        · injection ho with ho; subst ho
          refine .inl ⟨wanted_free rfl, ?_⟩
          have h149 : A.tmps[149]?.getD undef = .bool true := he 21 (by kernel_rfl)
          go_simp
          exact ⟨rfl, Below.refl _ _⟩
        · injection ho with ho; subst ho
          have hg : A.tmps[150]?.getD undef = .bool true := he 22 (by kernel_rfl)
          refine .inl ⟨wanted_yes (d := 150) rfl (by kernel_rfl) hg, ?_⟩
          have h13 : A.tmps[13]?.getD undef = .pointer (some ⟨g13, 0, none⟩) := hk 13 (by rfl)
          go_simp
          exact ⟨rfl, Below.refl _ _⟩
        · injection ho with ho; subst ho
          have hg : A.tmps[150]?.getD undef = .bool true := he 22 (by kernel_rfl)
          refine .inl ⟨wanted_yes (d := 150) rfl (by kernel_rfl) hg, ?_⟩
          have h151 : A.tmps[151]?.getD undef = .pointer (some ⟨g13, 16, none⟩) := he 23 (by kernel_rfl)
          go_simp
          exact ⟨rfl, Below.refl _ _⟩
        · injection ho with ho; subst ho
          have hg : A.tmps[150]?.getD undef = .bool true := he 22 (by kernel_rfl)
          refine .inl ⟨wanted_yes (d := 150) rfl (by kernel_rfl) hg, ?_⟩
          have h152 : A.tmps[152]?.getD undef = .pointer (some ⟨g13, 40, none⟩) := he 24 (by kernel_rfl)
          go_simp
          exact ⟨rfl, Below.refl _ _⟩
        · injection ho with ho; subst ho
          have hg : A.tmps[150]?.getD undef = .bool true := he 22 (by kernel_rfl)
          refine .inl ⟨wanted_yes (d := 150) rfl (by kernel_rfl) hg, ?_⟩
          have h153 : A.tmps[153]?.getD undef = .pointer (some ⟨g13, 44, none⟩) := he 25 (by kernel_rfl)
          go_simp
          exact ⟨rfl, Below.refl _ _⟩
        · injection ho with ho; subst ho
          have hg : A.tmps[150]?.getD undef = .bool true := he 22 (by kernel_rfl)
          refine .inl ⟨wanted_yes (d := 150) rfl (by kernel_rfl) hg, ?_⟩
          have h154 : A.tmps[154]?.getD undef = .pointer (some ⟨g13, 44, none⟩) := he 26 (by kernel_rfl)
          have c0 := ((((H2.out.grown hW).get (g := g13) (t := 29) (cs := vsC fun k => mapsF xor5 (V k)) (by simp)).cell 44).trans (vsC_at (fun k => mapsF xor5 (V k)) 5 4 44 (by omega) (by omega) rfl) : W.cell? ⟨g13, 44, none⟩ = some (.int .i64 (bits .xor .i64 (V 5 4) 5)))
          go_simp
          exact ⟨rfl, Below.refl _ _⟩
        · injection ho with ho; subst ho
          have hg : A.tmps[150]?.getD undef = .bool true := he 22 (by kernel_rfl)
          refine .inl ⟨wanted_yes (d := 150) rfl (by kernel_rfl) hg, ?_⟩
          have h3 : A.tmps[3]?.getD undef = .pointer (some ⟨w.heap.size, 0, none⟩) := hk 3 (by rfl)
          go_simp
          exact ⟨rfl, Below.refl _ _⟩
        · injection ho with ho; subst ho
          have hg : A.tmps[150]?.getD undef = .bool true := he 22 (by kernel_rfl)
          refine .inl ⟨wanted_yes (d := 150) rfl (by kernel_rfl) hg, ?_⟩
          have h156 : A.tmps[156]?.getD undef = .pointer (some ⟨w.heap.size, 16, none⟩) := he 28 (by kernel_rfl)
          go_simp
          exact ⟨rfl, Below.refl _ _⟩
        · injection ho with ho; subst ho
          have hg : A.tmps[150]?.getD undef = .bool true := he 22 (by kernel_rfl)
          refine .inl ⟨wanted_yes (d := 150) rfl (by kernel_rfl) hg, ?_⟩
          have h157 : A.tmps[157]?.getD undef = .pointer (some ⟨w.heap.size, 40, none⟩) := he 29 (by kernel_rfl)
          go_simp
          exact ⟨rfl, Below.refl _ _⟩
        · injection ho with ho; subst ho
          have hg : A.tmps[150]?.getD undef = .bool true := he 22 (by kernel_rfl)
          refine .inl ⟨wanted_yes (d := 150) rfl (by kernel_rfl) hg, ?_⟩
          have h158 : A.tmps[158]?.getD undef = .pointer (some ⟨w.heap.size, 44, none⟩) := he 30 (by kernel_rfl)
          go_simp
          exact ⟨rfl, Below.refl _ _⟩
        · injection ho with ho; subst ho
          have hg : A.tmps[150]?.getD undef = .bool true := he 22 (by kernel_rfl)
          refine .inl ⟨wanted_yes (d := 150) rfl (by kernel_rfl) hg, ?_⟩
          have h159 : A.tmps[159]?.getD undef = .pointer (some ⟨w.heap.size, 44, none⟩) := he 31 (by kernel_rfl)
          have c0 := (((H2.out.grown hW).get (g := w.heap.size) (t := 29) (cs := vsC (V)) (by simp)).cell 44).trans (vsC_at V 5 4 44 (by omega) (by omega) rfl)
          go_simp
          exact ⟨rfl, Below.refl _ _⟩
        · injection ho with ho; subst ho
          have hg : A.tmps[150]?.getD undef = .bool true := he 22 (by kernel_rfl)
          refine .inl ⟨wanted_yes (d := 150) rfl (by kernel_rfl) hg, ?_⟩
          have h160 : A.tmps[160]?.getD undef = .int .i64 (V 5 4) := he 32 (by kernel_rfl)
          go_simp
          exact ⟨rfl, Below.refl _ _⟩
        · injection ho with ho; subst ho
          have hg : A.tmps[150]?.getD undef = .bool true := he 22 (by kernel_rfl)
          refine .inl ⟨wanted_yes (d := 150) rfl (by kernel_rfl) hg, ?_⟩
          have h155 : A.tmps[155]?.getD undef = .int .i64 (bits .xor .i64 (V 5 4) 5) := he 27 (by kernel_rfl)
          have h161 : A.tmps[161]?.getD undef = .int .i64 (bits .xor .i64 (V 5 4) 5) := he 33 (by kernel_rfl)
          go_simp
          exact ⟨rfl, Below.refl _ _⟩
        · injection ho with ho; subst ho
          refine .inl ⟨wanted_free rfl, ?_⟩
          have h150 : A.tmps[150]?.getD undef = .bool true := he 22 (by kernel_rfl)
          have h162 : A.tmps[162]?.getD undef = .bool true := he 34 (by kernel_rfl)
          go_simp
          exact ⟨rfl, Below.refl _ _⟩
        · injection ho with ho; subst ho
          refine .inl ⟨wanted_free rfl, ?_⟩
          have h163 : A.tmps[163]?.getD undef = .bool true := he 35 (by kernel_rfl)
          go_simp
          exact ⟨rfl, Below.refl _ _⟩
        · injection ho with ho; subst ho
          have hg : A.tmps[164]?.getD undef = .bool true := he 36 (by kernel_rfl)
          refine .inl ⟨wanted_yes (d := 164) rfl (by kernel_rfl) hg, ?_⟩
          go_simp
          refine Calls.mono (wakes_any W) ?_
          rintro e' w' ⟨rfl, hb⟩
          exact ⟨_, rfl, rfl, hb⟩
        · injection ho with ho; subst ho
          refine .inl ⟨wanted_free rfl, ?_⟩
          have h164 : A.tmps[164]?.getD undef = .bool true := he 36 (by kernel_rfl)
          have h165 : A.tmps[165]?.getD undef = .bool true := he 37 (by kernel_rfl)
          go_simp
          exact ⟨rfl, Below.refl _ _⟩
      · intro xs W hW hV
        have e166 : xs 38 = .bool true := hV 38 (by simp)
        simp only [List.length_cons, List.length_nil, Nat.zero_add, Nat.reduceAdd, List.drop_succ_cons, List.drop_zero, putL, Act.put, List.setIfInBounds_toArray, List.set_cons_zero, List.set_cons_succ, e166]
        clear hV e166
        have HL := Lib.hid (H2.out.grown hW)
        clear hW H2
        go_wp2_with fail
        go_ret
        exact ⟨rfl, HL.out.low⟩
end Go.Proofs.Ytanbkclomjbokaa.Tvw
