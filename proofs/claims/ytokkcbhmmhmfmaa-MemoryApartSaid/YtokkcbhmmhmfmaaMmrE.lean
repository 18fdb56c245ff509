/- Layer 11 (memory): the closures of Add and find; find; BinarySearchFunc; Clone. -/
import Derived.Test.YtokkcbhmmhmfmaaMmrD
import Derived.Shelf.Abstract
namespace Go.Proofs.Ytokkcbhmmhmfmaa.Mmr
open Go.RowKit Go.Proofs.Ytokkcbhmmhmfmaa.Mem Go.Proofs.Ytokkcbhmmhmfmaa.Flow

theorem sp_of {x : It} (h : Spn.mayF x.a x.b = true) : Spn.Sp (fw x.a) (fw x.b) x.a x.b := Spn.sp_fl h
abbrev MayX (x : It) : Prop := Spn.mayF x.a x.b = true
theorem add1_enters : EntersI 43 := enters_of Try.func43 (by kernel_rfl) rfl
theorem find1_enters : EntersI 65 := enters_of Try.func65 (by kernel_rfl) rfl
set_option maxRecDepth 100000 in
theorem add1_any (x y : It) (hx : MayX x) (hy : MayX y) (g : Nat) (w : World) (hg : Sits w g 57 (itCells x)) :
    Calls Try.prog 43 #[itV y, .pointer (some ⟨g, 0, none⟩)] w (Made (.returned (.bool (!apartI y x))) w) := by
  have HC := Lib.hid (Spn.apart_any (sp_of hy) (sp_of hx))
  have c1 : w.cell? ⟨g, 1, none⟩ = some (.complex .f64 (fw x.a) (fw x.b)) := hg.cell 1
  have lg := hg.lt
  clear hx hy hg
  go_enter Try.func43, Try.ntmps43
  go_wp2_with fail
  refine (HC.out _).mono ?_
  rintro e w2 ⟨rfl, rfl⟩
  go_wp2_with fail
  go_ret
  exact ⟨rfl, one_low _ _⟩
/-- Which of two items is less. -/
def cmpI (x y : It) : Int := Spn.cmpF x.a x.b y.a y.b
set_option maxRecDepth 100000 in
theorem add2_any (x y : It) (hx : MayX x) (hy : MayX y) (w : World) :
    Calls Try.prog 46 #[itV y, .complex .f64 (fw x.a) (fw x.b)] w (Made (.returned (.int .i64 (cmpI y x))) w) := by
  have HC := Lib.hid (Spn.compare_any (sp_of hy) (sp_of hx))
  clear hx hy
  go_enter Try.func46, Try.ntmps46
  go_wp2_with fail
  refine (HC.out _).mono ?_
  rintro e w2 ⟨rfl, hb⟩
  have HB := Lib.hid ((one_low w _).trans (hb.mono (one_low w _).size))
  clear hb
  go_wp2_with fail
  go_ret
  exact ⟨rfl, HB.out⟩
theorem cmp_less (y x : It) : (cmpI y x < 0) ↔ lessI y x = true := by
  simp only [cmpI, Spn.cmpF, Spn.orF, Spn.cmp1, lessI, decide_eq_true_eq]
  split <;> split <;> (try split) <;> (try split) <;> omega
set_option maxRecDepth 100000 in
set_option maxHeartbeats 1000000 in
theorem find1_any (to owner : Int) (res : Bool) (y : It) (hy : MayX y) (g1 g2 g3 : Nat) (w : World) (h1 : Sits w g1 3 #[.int .i64 to]) (h2 : Sits w g2 4 #[.bool res]) (h3 : Sits w g3 3 #[.int .i64 owner]) :
    Calls Try.prog 65 #[itV y, .pointer (some ⟨g1, 0, none⟩), .pointer (some ⟨g2, 0, none⟩), .pointer (some ⟨g3, 0, none⟩)] w (Made (.returned (.bool (endI to owner res y))) w) := by
  have HC := Lib.hid (Spn.to_any (sp_of hy))
  have HE : Hid (∀ b1 b2 b3, decide (y.b = to) = b1 → (y.res == res) = b2 → decide (y.owner = owner) = b3 → endI to owner res y = (b1 && b2 && b3)) := Lib.hid (fun b1 b2 b3 e1 e2 e3 => by unfold endI; rw [e1, e2, e3])
  have c1 : w.cell? ⟨g1, 0, none⟩ = some (.int .i64 to) := h1.cell 0
  have c2 : w.cell? ⟨g2, 0, none⟩ = some (.bool res) := h2.cell 0
  have c3 : w.cell? ⟨g3, 0, none⟩ = some (.int .i64 owner) := h3.cell 0
  have l1 := h1.lt
  have l2 := h2.lt
  have l3 := h3.lt
  clear hy h1 h2 h3
  have way : ∀ b1 b2 b3, decide (y.b = to) = b1 → (y.res == res) = b2 → decide (y.owner = owner) = b3 →
    Calls Try.prog 65 #[itV y, .pointer (some ⟨g1, 0, none⟩), .pointer (some ⟨g2, 0, none⟩), .pointer (some ⟨g3, 0, none⟩)] w (Made (.returned (.bool (b1 && b2 && b3))) w) := by
    intro b1 b2 b3 e1 e2 e3
    have k1 : (y.b == to) = b1 := by rw [← e1]; exact Bool.beq_eq_decide_eq _ _
    have k3 : (y.owner == owner) = b3 := by rw [← e3]; exact Bool.beq_eq_decide_eq _ _
    clear e1 e3
    go_enter Try.func65, Try.ntmps65
    go_wp2_with fail
    cases b1 <;> cases b2 <;> cases b3
    all_goals
      go_quiet (refine quiet_eq (HC.out _))
      go_wp2_with fail
      go_ret
      exact ⟨rfl, drewN_below (one_low _ _) _⟩
  rw [HE.out _ _ _ rfl rfl rfl]
  exact way _ _ _ rfl rfl rfl
/-! ### find -/
theorem mem_at {W : World} {g : Nat} {p : Nat → Option Addr} {c : Nat → Nat} {m : Mm} (h : Sits W g 31 (memCells p c m)) : ∀ k, k < 4 → W.cell? ⟨g, k, none⟩ = some (.slice (p k) (m.row k).length (c k))
  | 0, _ => h.cell 0
  | 1, _ => h.cell 1
  | 2, _ => h.cell 2
  | 3, _ => h.cell 3
  | (n + 4), h => absurd h (by omega)
structure FindAt (w : World) (p : Nat → Option Addr) (c : Nat → Nat) (m : Mm) (to owner : Int) (res : Bool) (W : World) : Prop where
  at5 : Sits W w.heap.size 31 (memCells p c m)
  at7 : Sits W (w.heap.size + 1) 3 #[.int .i64 to]
  at8 : Sits W (w.heap.size + 1 + 1) 3 #[.int .i64 owner]
  at9 : Sits W (w.heap.size + 1 + 1 + 1) 4 #[.bool res]
  low : Below w.heap.size w W
theorem FindAt.grown {w W W' : World} {p : Nat → Option Addr} {c : Nat → Nat} {m : Mm} {to owner : Int} {res : Bool} (h : FindAt w p c m to owner res W) (hb : Below W.heap.size W W') : FindAt w p c m to owner res W' :=
  ⟨h.at5.below hb h.at5.lt, h.at7.below hb h.at7.lt, h.at8.below hb h.at8.lt, h.at9.below hb h.at9.lt, h.low.trans (hb.mono h.low.size)⟩
theorem four_low (w : World) (a b c d : Obj) : Below w.heap.size w ((((w.alloc a).alloc b).alloc c).alloc d) := Vew.below_more (Vew.below3 w a b c) (by simp; omega) d
structure FindJ (g1 g2 g3 : Nat) (to owner : Int) (res : Bool) (W : World) : Prop where
  a : Sits W g1 3 #[.int .i64 to]
  b : Sits W g2 4 #[.bool res]
  d : Sits W g3 3 #[.int .i64 owner]
theorem find_tells (g1 g2 g3 : Nat) (to owner : Int) (res : Bool) : TellsI 65 #[] #[.pointer (some ⟨g1, 0, none⟩), .pointer (some ⟨g2, 0, none⟩), .pointer (some ⟨g3, 0, none⟩)] (endI to owner res) (FindJ g1 g2 g3 to owner res) MayX :=
  ⟨find1_enters, fun _ _ h hb => ⟨h.a.below hb h.a.lt, h.b.below hb h.b.lt, h.d.below hb h.d.lt⟩, fun x w hx h => find1_any to owner res x hx g1 g2 g3 w h.a h.b h.d⟩
structure FitM (m : Mm) : Prop where
  n : m.n ≤ 4
  few : ∀ i, (m.row i).length ≤ 40
  may : ∀ i y, y ∈ m.row i → MayX y
theorem OkM.fit {m : Mm} (h : OkM m) : FitM m := ⟨h.most, h.few, fun i y hy => h.may i y hy⟩
set_option maxRecDepth 100000 in
set_option maxHeartbeats 1000000 in
theorem find_any (p : Nat → Option Addr) (c : Nat → Nat) (m : Mm) (hF : FitM m) (loc to owner : Int) (res : Bool) (w : World) (hH : Hold w p c m) :
    Calls Try.prog 38 #[memV p c m, .int .i64 loc, .int .i64 to, .int .i64 owner, .bool res] w (Made (.returned (.tuple #[.int .i64 (findF m loc to owner res).1, .int .i64 (findF m loc to owner res).2])) w) := by
  have H0 : Hid (FindAt w p c m to owner res ((((w.alloc (.cells (memCells p c m) 31)).alloc (.cells #[.int .i64 to] 3)).alloc (.cells #[.int .i64 owner] 3)).alloc (.cells #[.bool res] 4))) := Lib.hid
    ⟨(((Sits.new _ _ _).alloc _).alloc _).alloc _, ((Sits.made (by simp) _ _).alloc _).alloc _, (Sits.made (by simp) _ _).alloc _, Sits.made (by simp) _ _, four_low _ _ _ _ _⟩
  have HH := Lib.hid hH
  have HF := Lib.hid hF
  clear hH hF
  have HD := Lib.hid (show ∀ b, hasF m loc = b → findF m loc to owner res = if b = false then (0, 1) else if idxF (endI to owner res) (m.row loc.toNat) < 0 ∨ owner = -1 then (0, 6) else (idxF (endI to owner res) (m.row loc.toNat), 0) from fun b hb => by unfold findF; rw [hb])
  go_enter Try.func38, Try.ntmps38
  go_wp2_with fail
  generalize ((((w.alloc (.cells (memCells p c m) 31)).alloc (.cells #[.int .i64 to] 3)).alloc (.cells #[.int .i64 owner] 3)).alloc (.cells #[.bool res] 4)) = w0 at H0 ⊢
  have b0 : w0.cell? ⟨w.heap.size, 0, none⟩ = some (.slice (p 0) (m.row 0).length (c 0)) := H0.out.at5.cell 0
  have b1 : w0.cell? ⟨w.heap.size, 1, none⟩ = some (.slice (p 1) (m.row 1).length (c 1)) := H0.out.at5.cell 1
  have b2 : w0.cell? ⟨w.heap.size, 2, none⟩ = some (.slice (p 2) (m.row 2).length (c 2)) := H0.out.at5.cell 2
  have b3 : w0.cell? ⟨w.heap.size, 3, none⟩ = some (.slice (p 3) (m.row 3).length (c 3)) := H0.out.at5.cell 3
  have b4 : w0.cell? ⟨w.heap.size, 4, none⟩ = some (.int .i64 (m.n : Nat)) := H0.out.at5.cell 4
  have lb := H0.out.at5.lt
  go_wp2_with fail
  refine (has_any p c m loc w0).mono ?_
  rintro e w1 ⟨rfl, hb⟩
  have H1 := Lib.hid (H0.out.grown hb)
  clear hb H0 b0 b1 b2 b3 b4 lb
  cases hh : hasF m loc
  · have HR := Lib.hid (HD.out _ hh)
    clear hh
    go_wp2_with fail
    go_ret2
    exact ⟨by rw [HR.out]; rfl, H1.out.low⟩
  obtain ⟨hl0, hl1⟩ := has_iff.1 hh
  obtain ⟨k, rfl⟩ : ∃ k : Nat, loc = (k : Nat) := ⟨loc.toNat, by omega⟩
  have hk4 : k < 4 := by have := HF.out.n; omega
  have HR := Lib.hid (HD.out _ hh)
  have bk := mem_at H1.out.at5 k hk4
  have lb := H1.out.at5.lt
  have lb8 := H1.out.at8.lt
  have b8 : w1.cell? ⟨w.heap.size + 1 + 1, 0, none⟩ = some (.int .i64 owner) := H1.out.at8.cell 0
  have j4 : (k : Int) < 4 := by omega
  have j0 : (0 : Int) ≤ (k : Int) := by omega
  have HI := Lib.hid (index_any (find_tells (w.heap.size + 1) (w.heap.size + 1 + 1 + 1) (w.heap.size + 1 + 1) to owner res) (m.row k) (p k) (c k) w1 (by have := HF.out.few k; omega) (HF.out.may k) ((HH.out.row k hk4).below H1.out.low) ⟨H1.out.at7, H1.out.at9, H1.out.at8⟩)
  clear hh hl0 hl1 hk4
  go_wp2_with fail
  refine HI.out.mono ?_
  rintro e w2 ⟨rfl, hb⟩
  have H2 := Lib.hid (H1.out.grown hb)
  clear hb H1 bk lb lb8 b8
  have lb8 := H2.out.at8.lt
  have b8 : w2.cell? ⟨w.heap.size + 1 + 1, 0, none⟩ = some (.int .i64 owner) := H2.out.at8.cell 0
  have HID := Lib.hid (show (k : Int).toNat = k by omega)
  by_cases hi : idxF (endI to owner res) (m.row k) < 0
  · have HR2 : Hid (findF m k to owner res = (0, 6)) := Lib.hid (by rw [HR.out, HID.out, if_neg (by simp), if_pos (.inl hi)])
    generalize idxF (endI to owner res) (m.row k) = z at hi
    go_wp2_with fail
    go_ret2
    exact ⟨by rw [HR2.out]; rfl, H2.out.low⟩
  by_cases ho : owner = -1
  · have HR2 : Hid (findF m k to owner res = (0, 6)) := Lib.hid (by rw [HR.out, HID.out, if_neg (by simp), if_pos (.inr ho)])
    generalize idxF (endI to owner res) (m.row k) = z at hi
    have ho' : (owner == -1) = true := by simpa using ho
    clear ho
    go_wp2_with fail
    go_ret2
    exact ⟨by rw [HR2.out]; rfl, H2.out.low⟩
  · have HR2 : Hid (findF m k to owner res = (idxF (endI to owner res) (m.row k), 0)) := Lib.hid (by rw [HR.out, HID.out, if_neg (by simp), if_neg (by omega)])
    generalize idxF (endI to owner res) (m.row k) = z at hi HR2
    have ho' : (owner == -1) = false := by simpa using ho
    clear ho
    go_wp2_with fail
    go_ret2
    exact ⟨by rw [HR2.out]; rfl, H2.out.low⟩
end Go.Proofs.Ytokkcbhmmhmfmaa.Mmr
