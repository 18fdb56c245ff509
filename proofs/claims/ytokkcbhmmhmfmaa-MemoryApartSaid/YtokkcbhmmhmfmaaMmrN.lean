/- Layer 11 (memory): At, Last, Closed. -/
import Derived.Test.YtokkcbhmmhmfmaaMmrM
import Derived.Test.YtokkcbhmmhmfmaaVewD
namespace Go.Proofs.Ytokkcbhmmhmfmaa.Mmr
open Go.RowKit Go.Proofs.Ytokkcbhmmhmfmaa.Mem Go.Proofs.Ytokkcbhmmhmfmaa.Flow

set_option maxRecDepth 100000 in
theorem at1_any (to : Int) (y : It) (hy : MayX y) (g1 : Nat) (w : World) (h1 : Sits w g1 3 #[.int .i64 to]) :
    Calls Try.prog 56 #[itV y, .pointer (some ⟨g1, 0, none⟩)] w (Made (.returned (.bool (decide (y.b = to)))) w) := by
  have HC := Lib.hid (Spn.to_any (sp_of hy))
  have c1 : w.cell? ⟨g1, 0, none⟩ = some (.int .i64 to) := h1.cell 0
  have l1 := h1.lt
  clear hy h1
  go_enter Try.func56, Try.ntmps56
  go_wp2_with fail
  go_quiet (refine quiet_eq (HC.out _))
  go_wp2_with fail
  go_ret
  exact ⟨by rw [← Bool.beq_eq_decide_eq]; rfl, drewN_below (one_low _ _) _⟩
theorem at1_enters : EntersI 56 := enters_of Try.func56 (by kernel_rfl) rfl
theorem at1_tells (to : Int) (g : Nat) : TellsI 56 #[] #[.pointer (some ⟨g, 0, none⟩)] (fun x => decide (x.b = to)) (fun W => Sits W g 3 #[.int .i64 to]) MayX :=
  ⟨at1_enters, fun _ _ h hb => h.below hb h.lt, fun y w hy h => at1_any to y hy g w h⟩
set_option maxRecDepth 100000 in
theorem last1_any (y : It) (w : World) : Calls Try.prog 63 #[itV y] w (Made (.returned (.bool true)) w) := by
  go_enter Try.func63, Try.ntmps63
  go_wp2_with fail
  go_ret
  exact ⟨rfl, one_low _ _⟩
theorem last1_enters : EntersI 63 := enters_of Try.func63 (by kernel_rfl) rfl
theorem last1_tells : TellsI 63 #[] #[] (fun _ => true) (fun _ => True) (fun _ => True) :=
  ⟨last1_enters, fun _ _ _ _ => trivial, fun y w _ _ => last1_any y w⟩
/-- What came back is laid into a block that was made for it. -/
def cellsO : Option It → Array Value
  | some x => itCells x
  | none => zeroIt
theorem itO_eq (r : Option It) : itO r = .agg (cellsO r) := by cases r <;> rfl
theorem cellsO_one (r : Option It) : (cellsO r).all (·.oneCell') = true := by
  cases r with
  | none => exact zero_one
  | some x => exact it_one x
theorem cellsO_size (r : Option It) : some 13 = some (cellsO r).size := by cases r <;> rfl
structure AtAt (w : World) (p : Nat → Option Addr) (c : Nat → Nat) (m : Mm) (to : Int) (z : Array Value) (W : World) : Prop where
  at3 : Sits W w.heap.size 31 (memCells p c m)
  at5 : Sits W (w.heap.size + 1) 3 #[.int .i64 to]
  at6 : Sits W (w.heap.size + 1 + 1) 57 z
  low : Below w.heap.size w W
theorem AtAt.grown {w W W' : World} {p : Nat → Option Addr} {c : Nat → Nat} {m : Mm} {to : Int} {z : Array Value} (h : AtAt w p c m to z W) (hb : Below W.heap.size W W') : AtAt w p c m to z W' :=
  ⟨h.at3.below hb h.at3.lt, h.at5.below hb h.at5.lt, h.at6.below hb h.at6.lt, h.low.trans (hb.mono h.low.size)⟩
set_option maxRecDepth 100000 in
set_option maxHeartbeats 2000000 in
theorem at_any (p : Nat → Option Addr) (c : Nat → Nat) (m : Mm) (hO : OkM m) (loc to : Int) (w : World) (hH : Hold w p c m) :
    Calls Try.prog 19 #[memV p c m, .int .i64 loc, .int .i64 to] w (GivesI (atF m loc to) w) := by
  have H0 : Hid (AtAt w p c m to zeroIt (((w.alloc (.cells (memCells p c m) 31)).alloc (.cells #[.int .i64 to] 3)).alloc (.cells zeroIt 57))) := Lib.hid
    ⟨((Sits.new _ _ _).alloc _).alloc _, (Sits.made (by simp) _ _).alloc _, Sits.made (by simp) _ _, Vew.below3 _ _ _ _⟩
  have HH := Lib.hid hH
  have HO := Lib.hid hO
  clear hH hO
  go_enter Try.func19, Try.ntmps19
  go_upto_region 1 with (fail)
  generalize (((w.alloc (.cells (memCells p c m) 31)).alloc (.cells #[.int .i64 to] 3)).alloc (.cells zeroIt 57)) = w0 at H0 ⊢
  have b0 : w0.cell? ⟨w.heap.size, 0, none⟩ = some (.slice (p 0) (m.row 0).length (c 0)) := H0.out.at3.cell 0
  have b1 : w0.cell? ⟨w.heap.size, 1, none⟩ = some (.slice (p 1) (m.row 1).length (c 1)) := H0.out.at3.cell 1
  have b2 : w0.cell? ⟨w.heap.size, 2, none⟩ = some (.slice (p 2) (m.row 2).length (c 2)) := H0.out.at3.cell 2
  have b3 : w0.cell? ⟨w.heap.size, 3, none⟩ = some (.slice (p 3) (m.row 3).length (c 3)) := H0.out.at3.cell 3
  have b4 : w0.cell? ⟨w.heap.size, 4, none⟩ = some (.int .i64 (m.n : Nat)) := H0.out.at3.cell 4
  have lb := H0.out.at3.lt
  have HC := Lib.hid (last_any (at1_tells to (w.heap.size + 1)) p c m HO.out (fun i x hx => HO.out.may i x hx) loc w0 (HH.out.below H0.out.low) H0.out.at5)
  have HA : Hid (lastF m loc (fun x => decide (x.b = to)) = atF m loc to) := Lib.hid rfl
  rw [HA.out] at HC
  go_wp2_with fail
  refine HC.out.mono ?_
  rintro e w1 ⟨rfl, hb⟩
  have H1 := Lib.hid (H0.out.grown hb)
  clear hb HA HC b0 b1 b2 b3 b4 lb
  generalize hr : atF m loc to = r
  have HR := Lib.hid hr
  clear hr
  cases r with
  | none =>
    have hio : itO none = .agg zeroIt := rfl
    go_wp2_with (refine wpList_store_row rfl 57 _ _ rfl (w.heap.size + 1 + 1) zeroIt rfl rfl 57 _ H1.out.at6 itSize rfl zero_one ?_)
    have s6 : Sits (w1.setRow (w.heap.size + 1 + 1) zeroIt) (w.heap.size + 1 + 1) 57 zeroIt := setRow_heap w1 _ _ _ _ _ H1.out.at6
    have HB := Lib.hid (row_low H1.out.low (by omega : w.heap.size ≤ w.heap.size + 1 + 1) zeroIt)
    generalize w1.setRow (w.heap.size + 1 + 1) zeroIt = W2 at s6 HB ⊢
    obtain ⟨c0, c1, c2, c3, c4, c5, c6, c7, c8, c9, c10, c11, c12⟩ := zeroAt s6
    go_wp2_with fail
    exact bodyPost_ret (v := .tuple #[.agg zeroIt, .bool false]) (by simp [results, Try.results19, go_sem, c0, c1, c2, c3, c4, c5, c6, c7, c8, c9, c10, c11, c12]) rfl (by rw [HR.out]; exact ⟨rfl, HB.out⟩)
  | some x =>
    have hio : itO (some x) = itV x := rfl
    go_wp2_with (refine wpList_store_row rfl 57 _ _ rfl (w.heap.size + 1 + 1) (itCells x) rfl rfl 57 _ H1.out.at6 itSize rfl (it_one x) ?_)
    have s6 : Sits (w1.setRow (w.heap.size + 1 + 1) (itCells x)) (w.heap.size + 1 + 1) 57 (itCells x) := setRow_heap w1 _ _ _ _ _ H1.out.at6
    have HB := Lib.hid (row_low H1.out.low (by omega : w.heap.size ≤ w.heap.size + 1 + 1) (itCells x))
    generalize w1.setRow (w.heap.size + 1 + 1) (itCells x) = W2 at s6 HB ⊢
    obtain ⟨c0, c1, c2, c3, c4, c5, c6, c7, c8, c9, c10, c11, c12⟩ := itAt_sits s6
    go_wp2_with fail
    exact bodyPost_ret (v := .tuple #[itV x, .bool true]) (by simp [results, Try.results19, go_sem, c0, c1, c2, c3, c4, c5, c6, c7, c8, c9, c10, c11, c12]) rfl (by rw [HR.out]; exact ⟨rfl, HB.out⟩)
structure LaAt (w : World) (p : Nat → Option Addr) (c : Nat → Nat) (m : Mm) (z : Array Value) (W : World) : Prop where
  at3 : Sits W w.heap.size 31 (memCells p c m)
  at6 : Sits W (w.heap.size + 1) 57 z
  low : Below w.heap.size w W
theorem LaAt.grown {w W W' : World} {p : Nat → Option Addr} {c : Nat → Nat} {m : Mm} {z : Array Value} (h : LaAt w p c m z W) (hb : Below W.heap.size W W') : LaAt w p c m z W' :=
  ⟨h.at3.below hb h.at3.lt, h.at6.below hb h.at6.lt, h.low.trans (hb.mono h.low.size)⟩
set_option maxRecDepth 100000 in
set_option maxHeartbeats 2000000 in
theorem lastof_any (p : Nat → Option Addr) (c : Nat → Nat) (m : Mm) (hO : OkM m) (loc : Int) (w : World) (hH : Hold w p c m) :
    Calls Try.prog 36 #[memV p c m, .int .i64 loc] w (GivesI (lastF m loc fun _ => true) w) := by
  have H0 : Hid (LaAt w p c m zeroIt ((w.alloc (.cells (memCells p c m) 31)).alloc (.cells zeroIt 57))) := Lib.hid
    ⟨(Sits.new _ _ _).alloc _, Sits.made (by simp) _ _, two_low _ _ _⟩
  have HH := Lib.hid hH
  have HO := Lib.hid hO
  clear hH hO
  go_enter Try.func36, Try.ntmps36
  go_upto_region 1 with (fail)
  generalize ((w.alloc (.cells (memCells p c m) 31)).alloc (.cells zeroIt 57)) = w0 at H0 ⊢
  have b0 : w0.cell? ⟨w.heap.size, 0, none⟩ = some (.slice (p 0) (m.row 0).length (c 0)) := H0.out.at3.cell 0
  have b1 : w0.cell? ⟨w.heap.size, 1, none⟩ = some (.slice (p 1) (m.row 1).length (c 1)) := H0.out.at3.cell 1
  have b2 : w0.cell? ⟨w.heap.size, 2, none⟩ = some (.slice (p 2) (m.row 2).length (c 2)) := H0.out.at3.cell 2
  have b3 : w0.cell? ⟨w.heap.size, 3, none⟩ = some (.slice (p 3) (m.row 3).length (c 3)) := H0.out.at3.cell 3
  have b4 : w0.cell? ⟨w.heap.size, 4, none⟩ = some (.int .i64 (m.n : Nat)) := H0.out.at3.cell 4
  have lb := H0.out.at3.lt
  have HC := Lib.hid (last_any last1_tells p c m HO.out (fun _ _ _ => trivial) loc w0 (HH.out.below H0.out.low) trivial)
  go_wp2_with fail
  refine HC.out.mono ?_
  rintro e w1 ⟨rfl, hb⟩
  have H1 := Lib.hid (H0.out.grown hb)
  clear hb HC b0 b1 b2 b3 b4 lb
  generalize hr : lastF m loc (fun _ => true) = r
  have HR := Lib.hid hr
  clear hr
  cases r with
  | none =>
    have hio : itO none = .agg zeroIt := rfl
    go_wp2_with (refine wpList_store_row rfl 57 _ _ rfl (w.heap.size + 1) zeroIt rfl rfl 57 _ H1.out.at6 itSize rfl zero_one ?_)
    have s6 : Sits (w1.setRow (w.heap.size + 1) zeroIt) (w.heap.size + 1) 57 zeroIt := setRow_heap w1 _ _ _ _ _ H1.out.at6
    have HB := Lib.hid (row_low H1.out.low (by omega : w.heap.size ≤ w.heap.size + 1) zeroIt)
    generalize w1.setRow (w.heap.size + 1) zeroIt = W2 at s6 HB ⊢
    obtain ⟨c0, c1, c2, c3, c4, c5, c6, c7, c8, c9, c10, c11, c12⟩ := zeroAt s6
    go_wp2_with fail
    exact bodyPost_ret (v := .tuple #[.agg zeroIt, .bool false]) (by simp [results, Try.results36, go_sem, c0, c1, c2, c3, c4, c5, c6, c7, c8, c9, c10, c11, c12]) rfl (by rw [HR.out]; exact ⟨rfl, HB.out⟩)
  | some x =>
    have hio : itO (some x) = itV x := rfl
    go_wp2_with (refine wpList_store_row rfl 57 _ _ rfl (w.heap.size + 1) (itCells x) rfl rfl 57 _ H1.out.at6 itSize rfl (it_one x) ?_)
    have s6 : Sits (w1.setRow (w.heap.size + 1) (itCells x)) (w.heap.size + 1) 57 (itCells x) := setRow_heap w1 _ _ _ _ _ H1.out.at6
    have HB := Lib.hid (row_low H1.out.low (by omega : w.heap.size ≤ w.heap.size + 1) (itCells x))
    generalize w1.setRow (w.heap.size + 1) (itCells x) = W2 at s6 HB ⊢
    obtain ⟨c0, c1, c2, c3, c4, c5, c6, c7, c8, c9, c10, c11, c12⟩ := itAt_sits s6
    go_wp2_with fail
    exact bodyPost_ret (v := .tuple #[itV x, .bool true]) (by simp [results, Try.results36, go_sem, c0, c1, c2, c3, c4, c5, c6, c7, c8, c9, c10, c11, c12]) rfl (by rw [HR.out]; exact ⟨rfl, HB.out⟩)

/-! ### Closed -/
structure ClJ (g : Nat) (p : Nat → Option Addr) (c : Nat → Nat) (m : Mm) (W : World) : Prop where
  at_ : Sits W g 31 (memCells p c m)
  hold : Hold W p c m
set_option maxRecDepth 100000 in
set_option maxHeartbeats 1000000 in
theorem closed1_any (p : Nat → Option Addr) (c : Nat → Nat) (m : Mm) (hO : OkM m) (g : Nat) (i t : Int) (w : World) (hJ : ClJ g p c m w) :
    Calls Try.prog 58 #[.int .i64 i, .int .i64 t, .pointer (some ⟨g, 0, none⟩)] w (Made (.returned (.int .i64 (closeF m i t))) w) := by
  have HC := Lib.hid (at_any p c m hO i t w hJ.hold)
  have b0 : w.cell? ⟨g, 0, none⟩ = some (.slice (p 0) (m.row 0).length (c 0)) := hJ.at_.cell 0
  have b1 : w.cell? ⟨g, 1, none⟩ = some (.slice (p 1) (m.row 1).length (c 1)) := hJ.at_.cell 1
  have b2 : w.cell? ⟨g, 2, none⟩ = some (.slice (p 2) (m.row 2).length (c 2)) := hJ.at_.cell 2
  have b3 : w.cell? ⟨g, 3, none⟩ = some (.slice (p 3) (m.row 3).length (c 3)) := hJ.at_.cell 3
  have b4 : w.cell? ⟨g, 4, none⟩ = some (.int .i64 (m.n : Nat)) := hJ.at_.cell 4
  have lb := hJ.at_.lt
  clear hJ hO
  go_enter Try.func58, Try.ntmps58
  go_wp2_with fail
  refine HC.out.mono ?_
  rintro e w1 ⟨rfl, hb⟩
  have HB := Lib.hid hb
  clear hb b0 b1 b2 b3 b4 lb HC
  have HE : Hid (closeF m i t = if (atF m i t).isSome then t else 0) := Lib.hid rfl
  generalize atF m i t = r at HE
  cases r with
  | none =>
    have hio : itO none = .agg zeroIt := rfl
    go_wp2_with fail
    go_ret
    exact ⟨by rw [HE.out]; rfl, HB.out.trans ((one_low w1 _).mono HB.out.size)⟩
  | some x =>
    have hio : itO (some x) = itV x := rfl
    go_wp2_with fail
    go_ret
    exact ⟨by rw [HE.out]; rfl, HB.out.trans ((one_low w1 _).mono HB.out.size)⟩
theorem closed1_enters : Vew.EntersV 58 := enters_of Try.func58 (by kernel_rfl) rfl
theorem closed1_says (p : Nat → Option Addr) (c : Nat → Nat) (m : Mm) (hO : OkM m) (g : Nat) : Vew.Says 58 #[] #[.pointer (some ⟨g, 0, none⟩)] (closeF m) (ClJ g p c m) :=
  ⟨closed1_enters, fun _ _ h hb => ⟨h.at_.below hb h.at_.lt, h.hold.below hb⟩, fun i n w _ _ h => closed1_any p c m hO g i n w h⟩
end Go.Proofs.Ytokkcbhmmhmfmaa.Mmr
