/- Layer 11 (memory): Add, Fulfil, Cancel. -/
import Derived.Test.YtgkgpehjedmejaaMmrG
namespace Go.Proofs.Ytgkgpehjedmejaa.Mmr
open Go.RowKit Go.Proofs.Ytgkgpehjedmejaa.Mem Go.Proofs.Ytgkgpehjedmejaa.Flow

/-- A memory and an answer came back. -/
def GivesE (r : Mm × Int) (w : World) (e : Ending) (w' : World) : Prop := ∃ p c, e = .returned (.tuple #[memV p c r.1, .int .i64 r.2]) ∧ Hold w' p c r.1 ∧ Below w.heap.size w w'
structure AddAt (w : World) (p : Nat → Option Addr) (c : Nat → Nat) (m : Mm) (x : It) (W : World) : Prop where
  at2 : Sits W w.heap.size 28 (memCells p c m)
  at3 : Sits W (w.heap.size + 1) 52 (itCells x)
  at4 : Sits W (w.heap.size + 1 + 1) 28 zeroMem
  low : Below w.heap.size w W
theorem AddAt.grown {w W W' : World} {p : Nat → Option Addr} {c : Nat → Nat} {m : Mm} {x : It} (h : AddAt w p c m x W) (hb : Below W.heap.size W W') : AddAt w p c m x W' :=
  ⟨h.at2.below hb h.at2.lt, h.at3.below hb h.at3.lt, h.at4.below hb h.at4.lt, h.low.trans (hb.mono h.low.size)⟩
/-- The answer is laid into the result's own cells. -/
theorem AddAt.out {w W : World} {p : Nat → Option Addr} {c : Nat → Nat} {m : Mm} {x : It} (h : AddAt w p c m x W) {p2 : Nat → Option Addr} {c2 : Nat → Nat} {m2 : Mm} (hh : Hold W p2 c2 m2) (a : Int) :
    GivesE (m2, a) w (.returned (.tuple #[memV p2 c2 m2, .int .i64 a])) (W.setRow (w.heap.size + 1 + 1) (memCells p2 c2 m2)) ∧ Sits (W.setRow (w.heap.size + 1 + 1) (memCells p2 c2 m2)) (w.heap.size + 1 + 1) 28 (memCells p2 c2 m2) :=
  ⟨⟨p2, c2, rfl, hold_row hh h.at4 _, row_low h.low (by omega) _⟩, setRow_heap W _ _ _ _ _ h.at4⟩
theorem addF_1 {m : Mm} {x : It} (h : mayI m x = false) : addF m x = (m, 1) := by unfold addF; rw [if_pos h]
theorem addF_5 {m : Mm} {x : It} {k : Nat} (h : mayI m x = true) (hk : x.loc = (k : Nat)) (h2 : ((m.row k).any fun y => !apartI y x) = true) : addF m x = (m, 5) := by
  unfold addF; rw [if_neg (by rw [h]; simp), show x.loc.toNat = k by omega, if_pos h2]
theorem addF_4 {m : Mm} {x : It} {k : Nat} (h : mayI m x = true) (hk : x.loc = (k : Nat)) (h2 : ((m.row k).any fun y => !apartI y x) = false) (h3 : 40 ≤ (m.row k).length) : addF m x = (m, 4) := by
  unfold addF; rw [if_neg (by rw [h]; simp), show x.loc.toNat = k by omega, if_neg (by rw [h2]; simp), if_pos h3]
theorem addF_0 {m : Mm} {x : It} {k : Nat} (h : mayI m x = true) (hk : x.loc = (k : Nat)) (h2 : ((m.row k).any fun y => !apartI y x) = false) (h3 : ¬ 40 ≤ (m.row k).length) : addF m x = (withF m k (posI (m.row k) x) (posI (m.row k) x) [x], 0) := by
  unfold addF; rw [if_neg (by rw [h]; simp), show x.loc.toNat = k by omega, if_neg (by rw [h2]; simp), if_neg h3]
theorem add1_tells (x : It) (hx : MayX x) (g : Nat) : TellsI 28 #[] #[.pointer (some ⟨g, 0, none⟩)] (fun y => !apartI y x) (fun W => Sits W g 52 (itCells x)) MayX :=
  ⟨add1_enters, fun _ _ h hb => h.below hb h.lt, fun y w hy h => add1_any x y hx hy g w h⟩
theorem its_new {W : World} {g : Nat} {x : It} (h : Sits W g 52 (itCells x)) : Its W (some ⟨g, 0, none⟩) [x] := fun k y hy => by
  have hk : k = 0 := by have := (List.getElem?_eq_some_iff.1 hy).1; simp at this; omega
  subst hk
  simp at hy; subst hy
  exact ⟨g, 0, rfl, h.lt, fun i _ => by simpa using h.cell i⟩
set_option maxRecDepth 100000 in
set_option maxHeartbeats 2000000 in
theorem add_any (p : Nat → Option Addr) (c : Nat → Nat) (m : Mm) (hO : OkM m) (x : It) (hx : FitI x) (w : World) (hH : Hold w p c m) :
    Calls Try.prog 12 #[memV p c m, itV x] w (GivesE (addF m x) w) := by
  have H0 : Hid (AddAt w p c m x (((w.alloc (.cells (memCells p c m) 28)).alloc (.cells (itCells x) 52)).alloc (.cells zeroMem 28))) := Lib.hid
    ⟨((Sits.new _ _ _).alloc _).alloc _, (Sits.made (by simp) _ _).alloc _, Sits.made (by simp) _ _, Vew.below3 _ _ _ _⟩
  have HH := Lib.hid hH
  have HO := Lib.hid hO
  have HX := Lib.hid hx
  clear hH hO hx
  go_enter Try.func12, Try.ntmps12
  go_upto_region 1 with (fail)
  generalize (((w.alloc (.cells (memCells p c m) 28)).alloc (.cells (itCells x) 52)).alloc (.cells zeroMem 28)) = w0 at H0 ⊢
  have b0 : w0.cell? ⟨w.heap.size, 0, none⟩ = some (.slice (p 0) (m.row 0).length (c 0)) := H0.out.at2.cell 0
  have b1 : w0.cell? ⟨w.heap.size, 1, none⟩ = some (.slice (p 1) (m.row 1).length (c 1)) := H0.out.at2.cell 1
  have b2 : w0.cell? ⟨w.heap.size, 2, none⟩ = some (.slice (p 2) (m.row 2).length (c 2)) := H0.out.at2.cell 2
  have b3 : w0.cell? ⟨w.heap.size, 3, none⟩ = some (.slice (p 3) (m.row 3).length (c 3)) := H0.out.at2.cell 3
  have b4 : w0.cell? ⟨w.heap.size, 4, none⟩ = some (.int .i64 (m.n : Nat)) := H0.out.at2.cell 4
  have lb := H0.out.at2.lt
  obtain ⟨c0, c1, c2, c3, c4, c5, c6, c7, c8, c9, c10, c11, c12⟩ := itAt_sits H0.out.at3
  have l3 := H0.out.at3.lt
  go_wp2_with fail
  refine (may_any p c m x HX.out w0).mono ?_
  rintro e w1 ⟨rfl, hb⟩
  have H1 := Lib.hid (H0.out.grown hb)
  clear hb H0 b0 b1 b2 b3 b4 lb c0 c1 c2 c3 c4 c5 c6 c7 c8 c9 c10 c11 c12 l3
  have b0 : w1.cell? ⟨w.heap.size, 0, none⟩ = some (.slice (p 0) (m.row 0).length (c 0)) := H1.out.at2.cell 0
  have b1 : w1.cell? ⟨w.heap.size, 1, none⟩ = some (.slice (p 1) (m.row 1).length (c 1)) := H1.out.at2.cell 1
  have b2 : w1.cell? ⟨w.heap.size, 2, none⟩ = some (.slice (p 2) (m.row 2).length (c 2)) := H1.out.at2.cell 2
  have b3 : w1.cell? ⟨w.heap.size, 3, none⟩ = some (.slice (p 3) (m.row 3).length (c 3)) := H1.out.at2.cell 3
  have b4 : w1.cell? ⟨w.heap.size, 4, none⟩ = some (.int .i64 (m.n : Nat)) := H1.out.at2.cell 4
  have lb := H1.out.at2.lt
  cases hm : mayI m x
  · have HR := Lib.hid (addF_1 hm)
    have HG := Lib.hid (H1.out.out (HH.out.below H1.out.low) 1)
    clear hm
    go_wp2_with (refine wpList_store_row rfl 28 _ _ rfl (w.heap.size + 1 + 1) (memCells p c m) rfl rfl 28 _ H1.out.at4 memSize rfl (mem_one _ _ _) ?_)
    generalize w1.setRow (w.heap.size + 1 + 1) (memCells p c m) = W3 at HG ⊢
    clear b0 b1 b2 b3 b4 lb
    have s := HG.out.2
    have b0 : W3.cell? ⟨w.heap.size + 1 + 1, 0, none⟩ = some (.slice (p 0) (m.row 0).length (c 0)) := s.cell 0
    have b1 : W3.cell? ⟨w.heap.size + 1 + 1, 1, none⟩ = some (.slice (p 1) (m.row 1).length (c 1)) := s.cell 1
    have b2 : W3.cell? ⟨w.heap.size + 1 + 1, 2, none⟩ = some (.slice (p 2) (m.row 2).length (c 2)) := s.cell 2
    have b3 : W3.cell? ⟨w.heap.size + 1 + 1, 3, none⟩ = some (.slice (p 3) (m.row 3).length (c 3)) := s.cell 3
    have b4 : W3.cell? ⟨w.heap.size + 1 + 1, 4, none⟩ = some (.int .i64 (m.n : Nat)) := s.cell 4
    clear s
    go_wp2_with fail
    exact bodyPost_ret (v := .tuple #[memV p c m, .int .i64 1]) (by simp [results, Try.results12, go_sem, b0, b1, b2, b3, b4]) rfl (by rw [HR.out]; exact HG.out.1)
  have hparts : (0 ≤ x.loc ∧ x.loc < (m.n : Nat)) ∧ MayX x := by
    have h := hm
    simp only [mayI, Bool.and_eq_true, has_iff] at h
    exact ⟨h.1.1.1.1.1.1, h.1.1.1.2⟩
  obtain ⟨⟨hl0, hl1⟩, hMX⟩ := hparts
  obtain ⟨k, hk⟩ : ∃ k : Nat, x.loc = (k : Nat) := ⟨x.loc.toNat, by omega⟩
  have hkn : k < m.n := by omega
  have hk4 : k < 4 := by have := HO.out.most; omega
  have bk := mem_at H1.out.at2 k hk4
  have hL := HO.out.each k hkn
  have hIts := (HH.out.row k hk4).below H1.out.low
  have j4 : (k : Int) < 4 := by omega
  have j0 : (0 : Int) ≤ (k : Int) := by omega
  have HK := Lib.hid hk
  have HK4 := Lib.hid hk4
  have HM := Lib.hid hm
  have HMX := Lib.hid hMX
  have HL := Lib.hid hL
  have x0 : w1.cell? ⟨w.heap.size + 1, 0, none⟩ = some (.int .i64 (k : Nat)) := by rw [← hk]; exact H1.out.at3.cell 0
  have l3 := H1.out.at3.lt
  have HC := Lib.hid (contains_any (add1_tells x hMX (w.heap.size + 1)) (m.row k) (p k) (c k) w1 (by have := hL.few; omega) hL.may hIts H1.out.at3)
  have hfew := hL.few
  have i40 : ((m.row k).length : Int) ≤ 40 := by omega
  clear hl0 hl1 hk hm hMX hL hIts hkn hk4 hfew
  go_wp2_with fail
  refine HC.out.mono ?_
  rintro e w2 ⟨rfl, hb⟩
  have H2 := Lib.hid (H1.out.grown hb)
  clear hb H1 b0 b1 b2 b3 b4 lb bk x0 l3 HC
  have b0 : w2.cell? ⟨w.heap.size, 0, none⟩ = some (.slice (p 0) (m.row 0).length (c 0)) := H2.out.at2.cell 0
  have b1 : w2.cell? ⟨w.heap.size, 1, none⟩ = some (.slice (p 1) (m.row 1).length (c 1)) := H2.out.at2.cell 1
  have b2 : w2.cell? ⟨w.heap.size, 2, none⟩ = some (.slice (p 2) (m.row 2).length (c 2)) := H2.out.at2.cell 2
  have b3 : w2.cell? ⟨w.heap.size, 3, none⟩ = some (.slice (p 3) (m.row 3).length (c 3)) := H2.out.at2.cell 3
  have b4 : w2.cell? ⟨w.heap.size, 4, none⟩ = some (.int .i64 (m.n : Nat)) := H2.out.at2.cell 4
  have lb := H2.out.at2.lt
  cases hany : (m.row k).any fun y => !apartI y x
  rotate_left
  · have HR := Lib.hid (addF_5 HM.out HK.out hany)
    clear hany
    have HG := Lib.hid (H2.out.out (HH.out.below H2.out.low) 5)
    go_wp2_with (refine wpList_store_row rfl 28 _ _ rfl (w.heap.size + 1 + 1) (memCells p c m) rfl rfl 28 _ H2.out.at4 memSize rfl (mem_one _ _ _) ?_)
    generalize w2.setRow (w.heap.size + 1 + 1) (memCells p c m) = W3 at HG ⊢
    clear b0 b1 b2 b3 b4 lb
    have s := HG.out.2
    have b0 : W3.cell? ⟨w.heap.size + 1 + 1, 0, none⟩ = some (.slice (p 0) (m.row 0).length (c 0)) := s.cell 0
    have b1 : W3.cell? ⟨w.heap.size + 1 + 1, 1, none⟩ = some (.slice (p 1) (m.row 1).length (c 1)) := s.cell 1
    have b2 : W3.cell? ⟨w.heap.size + 1 + 1, 2, none⟩ = some (.slice (p 2) (m.row 2).length (c 2)) := s.cell 2
    have b3 : W3.cell? ⟨w.heap.size + 1 + 1, 3, none⟩ = some (.slice (p 3) (m.row 3).length (c 3)) := s.cell 3
    have b4 : W3.cell? ⟨w.heap.size + 1 + 1, 4, none⟩ = some (.int .i64 (m.n : Nat)) := s.cell 4
    clear s
    go_wp2_with fail
    exact bodyPost_ret (v := .tuple #[memV p c m, .int .i64 5]) (by simp [results, Try.results12, go_sem, b0, b1, b2, b3, b4]) rfl (by rw [HR.out]; exact HG.out.1)
  by_cases h40 : 40 ≤ (m.row k).length
  · have HR := Lib.hid (addF_4 HM.out HK.out hany h40)
    have k40 : (40 : Int) ≤ ((m.row k).length : Int) := by omega
    clear hany h40
    have HG := Lib.hid (H2.out.out (HH.out.below H2.out.low) 4)
    go_wp2_with (refine wpList_store_row rfl 28 _ _ rfl (w.heap.size + 1 + 1) (memCells p c m) rfl rfl 28 _ H2.out.at4 memSize rfl (mem_one _ _ _) ?_)
    generalize w2.setRow (w.heap.size + 1 + 1) (memCells p c m) = W3 at HG ⊢
    clear b0 b1 b2 b3 b4 lb
    have s := HG.out.2
    have b0 : W3.cell? ⟨w.heap.size + 1 + 1, 0, none⟩ = some (.slice (p 0) (m.row 0).length (c 0)) := s.cell 0
    have b1 : W3.cell? ⟨w.heap.size + 1 + 1, 1, none⟩ = some (.slice (p 1) (m.row 1).length (c 1)) := s.cell 1
    have b2 : W3.cell? ⟨w.heap.size + 1 + 1, 2, none⟩ = some (.slice (p 2) (m.row 2).length (c 2)) := s.cell 2
    have b3 : W3.cell? ⟨w.heap.size + 1 + 1, 3, none⟩ = some (.slice (p 3) (m.row 3).length (c 3)) := s.cell 3
    have b4 : W3.cell? ⟨w.heap.size + 1 + 1, 4, none⟩ = some (.int .i64 (m.n : Nat)) := s.cell 4
    clear s
    go_wp2_with fail
    exact bodyPost_ret (v := .tuple #[memV p c m, .int .i64 4]) (by simp [results, Try.results12, go_sem, b0, b1, b2, b3, b4]) rfl (by rw [HR.out]; exact HG.out.1)
  have HR := Lib.hid (addF_0 HM.out HK.out hany h40)
  have k40 : ¬ (40 : Int) ≤ ((m.row k).length : Int) := by omega
  have HSR := Lib.hid (search_any (m.row k) x (p k) (c k) (by have := HL.out.few; omega) HL.out.may HMX.out HL.out.rise w2 ((HH.out.row k HK4.out).below H2.out.low))
  have x1 : w2.cell? ⟨w.heap.size + 1, 1, none⟩ = some (.complex .f64 (fw x.a) (fw x.b)) := H2.out.at3.cell 1
  have l3 := H2.out.at3.lt
  clear hany h40
  go_wp2_with fail
  refine HSR.out.mono ?_
  rintro e w3 ⟨⟨b, rfl⟩, hb⟩
  have H3 := Lib.hid (H2.out.grown hb)
  clear hb H2 b0 b1 b2 b3 b4 lb x1 l3
  have b0 : w3.cell? ⟨w.heap.size, 0, none⟩ = some (.slice (p 0) (m.row 0).length (c 0)) := H3.out.at2.cell 0
  have b1 : w3.cell? ⟨w.heap.size, 1, none⟩ = some (.slice (p 1) (m.row 1).length (c 1)) := H3.out.at2.cell 1
  have b2 : w3.cell? ⟨w.heap.size, 2, none⟩ = some (.slice (p 2) (m.row 2).length (c 2)) := H3.out.at2.cell 2
  have b3 : w3.cell? ⟨w.heap.size, 3, none⟩ = some (.slice (p 3) (m.row 3).length (c 3)) := H3.out.at2.cell 3
  have b4 : w3.cell? ⟨w.heap.size, 4, none⟩ = some (.int .i64 (m.n : Nat)) := H3.out.at2.cell 4
  have lb := H3.out.at2.lt
  obtain ⟨c0, c1, c2, c3, c4, c5, c6, c7, c8, c9, c10, c11, c12⟩ := itAt_sits H3.out.at3
  have l3 := H3.out.at3.lt
  have HW : Hid (Calls Try.prog 33 #[memV p c m, .int .i64 x.loc, .int .i64 (posI (m.row k) x : Nat), .int .i64 (posI (m.row k) x : Nat), .slice (some ⟨w3.heap.size, 0, none⟩) 1 1] (w3.alloc (.cells (itCells x) 52)) (GivesM (withF m k (posI (m.row k) x) (posI (m.row k) x) [x]) (w3.alloc (.cells (itCells x) 52)))) := Lib.hid (by
    have := with_any p c m k (posI (m.row k) x) (posI (m.row k) x) HK4.out (pos_le _ _) (pos_le _ _) HL.out.one HL.out.few (some ⟨w3.heap.size, 0, none⟩) 1 [x] (by simp) (w3.alloc (.cells (itCells x) 52)) ((HH.out.below H3.out.low).below (one_low _ _)) (its_new (Sits.new _ _ _))
    rw [← HK.out] at this
    exact this)
  generalize withF m k (posI (m.row k) x) (posI (m.row k) x) [x] = m2 at HW HR
  go_wp2_with fail
  refine HW.out.mono ?_
  rintro e w4 ⟨q2, d2, rfl, hh, hb⟩
  have H4 := Lib.hid ((H3.out.grown (one_low _ _)).grown hb)
  have HG := Lib.hid (H4.out.out hh 0)
  clear hb hh H3 b0 b1 b2 b3 b4 lb c0 c1 c2 c3 c4 c5 c6 c7 c8 c9 c10 c11 c12 l3 HW
  go_wp2_with (refine wpList_store_row rfl 28 _ _ rfl (w.heap.size + 1 + 1) (memCells q2 d2 m2) rfl rfl 28 _ H4.out.at4 memSize rfl (mem_one _ _ _) ?_)
  generalize w4.setRow (w.heap.size + 1 + 1) (memCells q2 d2 m2) = W3 at HG ⊢
  have s := HG.out.2
  have b0 : W3.cell? ⟨w.heap.size + 1 + 1, 0, none⟩ = some (.slice (q2 0) (m2.row 0).length (d2 0)) := s.cell 0
  have b1 : W3.cell? ⟨w.heap.size + 1 + 1, 1, none⟩ = some (.slice (q2 1) (m2.row 1).length (d2 1)) := s.cell 1
  have b2 : W3.cell? ⟨w.heap.size + 1 + 1, 2, none⟩ = some (.slice (q2 2) (m2.row 2).length (d2 2)) := s.cell 2
  have b3 : W3.cell? ⟨w.heap.size + 1 + 1, 3, none⟩ = some (.slice (q2 3) (m2.row 3).length (d2 3)) := s.cell 3
  have b4 : W3.cell? ⟨w.heap.size + 1 + 1, 4, none⟩ = some (.int .i64 (m2.n : Nat)) := s.cell 4
  clear s
  go_wp2_with fail
  exact bodyPost_ret (v := .tuple #[memV q2 d2 m2, .int .i64 0]) (by simp [results, Try.results12, go_sem, b0, b1, b2, b3, b4]) rfl (by rw [HR.out]; exact HG.out.1)
end Go.Proofs.Ytgkgpehjedmejaa.Mmr
