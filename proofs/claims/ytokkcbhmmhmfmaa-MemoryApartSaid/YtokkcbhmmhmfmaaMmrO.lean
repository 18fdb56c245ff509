/- Layer 11 (memory): Closed. -/
import Derived.Test.YtokkcbhmmhmfmaaMmrN
namespace Go.Proofs.Ytokkcbhmmhmfmaa.Mmr
open Go.RowKit Go.Proofs.Ytokkcbhmmhmfmaa.Mem Go.Proofs.Ytokkcbhmmhmfmaa.Flow

structure ClAt (w : World) (p : Nat → Option Addr) (c : Nat → Nat) (m : Mm) (v : Nat → Int) (W : World) : Prop where
  at2 : Sits W w.heap.size 31 (memCells p c m)
  at3 : Sits W (w.heap.size + 1) 55 (Vew.vewCells v)
  low : Below w.heap.size w W
theorem ClAt.grown {w W W' : World} {p : Nat → Option Addr} {c : Nat → Nat} {m : Mm} {v : Nat → Int} (h : ClAt w p c m v W) (hb : Below W.heap.size W W') : ClAt w p c m v W' :=
  ⟨h.at2.below hb h.at2.lt, h.at3.below hb h.at3.lt, h.low.trans (hb.mono h.low.size)⟩
theorem closed_eq (m : Mm) (v : Nat → Int) : closedF m v = Vew.sameF 8 v (Vew.mapsF (closeF m) v) := rfl
set_option maxRecDepth 100000 in
set_option maxHeartbeats 2000000 in
theorem closed_any (p : Nat → Option Addr) (c : Nat → Nat) (m : Mm) (hO : OkM m) (v : Nat → Int) (w : World) (hH : Hold w p c m) :
    Calls Try.prog 21 #[memV p c m, Vew.vewV v] w (Made (.returned (.bool (closedF m v))) w) := by
  have H0 : Hid (ClAt w p c m v ((w.alloc (.cells (memCells p c m) 31)).alloc (.cells (Vew.vewCells v) 55))) := Lib.hid
    ⟨(Sits.new _ _ _).alloc _, Sits.made (by simp) _ _, two_low _ _ _⟩
  have HH := Lib.hid hH
  have HO := Lib.hid hO
  have HQ : Hid (∀ W, (binOp .eql 55 (Vew.vewV v) (Vew.vewV (Vew.mapsF (closeF m) v))).run Try.prog W = .ok (.bool (closedF m v)) W) := Lib.hid (fun W => by rw [closed_eq]; exact Vew.eql_vew _ _ W)
  clear hH hO
  go_enter Try.func21, Try.ntmps21
  go_upto_region 1 with (fail)
  generalize ((w.alloc (.cells (memCells p c m) 31)).alloc (.cells (Vew.vewCells v) 55)) = w0 at H0 ⊢
  refine wp_flowG [5, 6, 7, 8, 9] [eqV (Vew.vewV v), eqV (Vew.vewV v), eqV (.func (.func 58) #[] #[.pointer (some ⟨w.heap.size, 0, none⟩)]), eqV (Vew.vewV (Vew.mapsF (closeF m) v)), eqV (.bool (closedF m v))] (by kernel_rfl) (by kernel_rfl) (by kernel_rfl) (by kernel_rfl) (by rfl)
    (by simp only [List.mem_cons, List.not_mem_nil, or_false, forall_eq_or_imp, forall_eq]; refine ⟨?_, ?_, ?_, ?_, ?_⟩ <;> exact eqV_mono _) ?_ ?_
  · intro i o hi ho A W hW hk he
    simp only [List.length_cons, List.length_nil, Nat.zero_add, Nat.reduceAdd] at hi
    obtain rfl | rfl | rfl | rfl | rfl : i = 0 ∨ i = 1 ∨ i = 2 ∨ i = 3 ∨ i = 4 := by omega
    · injection ho with ho; subst ho
      refine .inl ⟨wanted_free rfl, ?_⟩
      have h3 : A.tmps[3]?.getD undef = .pointer (some ⟨w.heap.size + 1, 0, none⟩) := hk 3 (by rfl)
      have c0 := ((H0.out.grown hW).at3).cell 0
      have c1 := ((H0.out.grown hW).at3).cell 1
      have c2 := ((H0.out.grown hW).at3).cell 2
      have c3 := ((H0.out.grown hW).at3).cell 3
      have c4 := ((H0.out.grown hW).at3).cell 4
      have c5 := ((H0.out.grown hW).at3).cell 5
      have c6 := ((H0.out.grown hW).at3).cell 6
      have c7 := ((H0.out.grown hW).at3).cell 7
      go_simp
      exact ⟨rfl, Below.refl _ _⟩
    · injection ho with ho; subst ho
      refine .inl ⟨wanted_free rfl, ?_⟩
      have h3 : A.tmps[3]?.getD undef = .pointer (some ⟨w.heap.size + 1, 0, none⟩) := hk 3 (by rfl)
      have c0 := ((H0.out.grown hW).at3).cell 0
      have c1 := ((H0.out.grown hW).at3).cell 1
      have c2 := ((H0.out.grown hW).at3).cell 2
      have c3 := ((H0.out.grown hW).at3).cell 3
      have c4 := ((H0.out.grown hW).at3).cell 4
      have c5 := ((H0.out.grown hW).at3).cell 5
      have c6 := ((H0.out.grown hW).at3).cell 6
      have c7 := ((H0.out.grown hW).at3).cell 7
      go_simp
      exact ⟨rfl, Below.refl _ _⟩
    · injection ho with ho; subst ho
      refine .inl ⟨wanted_free rfl, ?_⟩
      have h2 : A.tmps[2]?.getD undef = .pointer (some ⟨w.heap.size, 0, none⟩) := hk 2 (by rfl)
      go_simp
      exact ⟨rfl, Below.refl _ _⟩
    · injection ho with ho; subst ho
      refine .inl ⟨wanted_free rfl, ?_⟩
      have h6 : A.tmps[6]?.getD undef = Vew.vewV v := he 1 (by kernel_rfl)
      have h7 : A.tmps[7]?.getD undef = .func (.func 58) #[] #[.pointer (some ⟨w.heap.size, 0, none⟩)] := he 2 (by kernel_rfl)
      go_simp
      refine Calls.mono (Vew.map_any (closed1_says p c m HO.out w.heap.size) v W ⟨(H0.out.grown hW).at2, HH.out.below (H0.out.grown hW).low⟩) ?_
      rintro e' w' ⟨rfl, hb⟩
      exact ⟨_, rfl, rfl, hb⟩
    · injection ho with ho; subst ho
      refine .inl ⟨wanted_free rfl, ?_⟩
      have h5 : A.tmps[5]?.getD undef = Vew.vewV v := he 0 (by kernel_rfl)
      have h8 : A.tmps[8]?.getD undef = Vew.vewV (Vew.mapsF (closeF m) v) := he 3 (by kernel_rfl)
      have hq := HQ.out W
      have hgd : ∀ x y, _ = _ := fun x y => Vew.guard_vew .eql x y v (Vew.mapsF (closeF m) v) W
      generalize Vew.vewV (Vew.mapsF (closeF m) v) = Y at h8 hq hgd
      generalize Vew.vewV v = X at h5 hq hgd
      go_simp
      exact ⟨rfl, Below.refl _ _⟩
  · intro xs W hW hV
    have e9 : xs 4 = .bool (closedF m v) := hV 4 (by simp)
    simp only [List.length_cons, List.length_nil, Nat.zero_add, Nat.reduceAdd, List.drop_succ_cons, List.drop_zero, putL, Act.put, List.setIfInBounds_toArray, List.set_cons_zero, List.set_cons_succ, e9]
    clear hV e9
    have HB := Lib.hid (H0.out.grown hW)
    clear hW
    go_wp2_with fail
    go_ret
    exact ⟨rfl, HB.out.low⟩
end Go.Proofs.Ytokkcbhmmhmfmaa.Mmr
