/- Layer 11 (memory): Fulfil, Cancel. -/
import Derived.Test.YtokkcbhmmhmfmaaMmrH
namespace Go.Proofs.Ytokkcbhmmhmfmaa.Mmr
open Go.RowKit Go.Proofs.Ytokkcbhmmhmfmaa.Mem Go.Proofs.Ytokkcbhmmhmfmaa.Flow

/-- What is found, where something is. -/
structure Hit (m : Mm) (loc to owner : Int) (res : Bool) (k t : Nat) (y : It) : Prop where
  locK : loc = (k : Nat)
  lt : k < m.n
  idx : (findF m loc to owner res).1 = (t : Nat)
  at_ : (m.row k)[t]? = some y
  is : endI to owner res y = true
  own : owner ≠ -1
theorem find_hit {m : Mm} {loc to owner : Int} {res : Bool} (h : (findF m loc to owner res).2 = 0) : ∃ k t y, Hit m loc to owner res k t y := by
  have h0 := h
  unfold findF at h
  by_cases h1 : hasF m loc = false
  · rw [if_pos h1] at h; simp at h
  rw [if_neg h1] at h
  by_cases h2 : idxF (endI to owner res) (m.row loc.toNat) < 0 ∨ owner = -1
  · rw [if_pos h2] at h; simp at h
  rw [if_neg h2] at h
  simp only [Bool.not_eq_false] at h1
  obtain ⟨hl0, hl1⟩ := has_iff.1 h1
  have h2' : 0 ≤ idxF (endI to owner res) (m.row loc.toNat) := by omega
  have e : (findF m loc to owner res).1 = idxF (endI to owner res) (m.row loc.toNat) := by
    unfold findF; rw [if_neg (by rw [h1]; simp), if_neg h2]
  unfold idxF at h2' e
  cases hi : (m.row loc.toNat).findIdx? (endI to owner res) with
  | none => rw [hi] at h2'; simp at h2'
  | some t =>
    rw [hi] at e
    obtain ⟨ht, hy, _⟩ := List.findIdx?_eq_some_iff_getElem.1 hi
    exact ⟨loc.toNat, t, _, by omega, by omega, e, List.getElem?_eq_getElem ht, hy, by omega⟩
theorem fulfil_hit {m : Mm} {loc to owner : Int} {k t : Nat} {y : It} (h : Hit m loc to owner false k t y) (h0 : (findF m loc to owner false).2 = 0) : fulfilF m loc to owner = (withF m k t (t + 1) [freeI y], 0) := by
  unfold fulfilF
  rw [if_neg (by rw [h0]; simp), h.idx, show loc.toNat = k by have := h.locK; omega, show ((t : Nat) : Int).toNat = t by omega, h.at_]
  rfl
theorem cancel_hit {m : Mm} {loc to owner : Int} {k t : Nat} {y : It} (h : Hit m loc to owner true k t y) (h0 : (findF m loc to owner true).2 = 0) : cancelF m loc to owner = (withF m k t (t + 1) [], 0) := by
  unfold cancelF
  rw [if_neg (by rw [h0]; simp), h.idx, show loc.toNat = k by have := h.locK; omega, show ((t : Nat) : Int).toNat = t by omega]
abbrev freeCells (x : It) : Array Value := #[.int .i64 x.loc, .complex .f64 (fw x.a) (fw x.b), .int .u64 x.n, .int .i64 (x.v 0), .int .i64 (x.v 1), .int .i64 (x.v 2), .int .i64 (x.v 3), .int .i64 (x.v 4), .int .i64 (x.v 5), .int .i64 (x.v 6), .int .i64 (x.v 7), .bool x.res, .int .i64 (-1)]
structure EndAt (w : World) (p : Nat → Option Addr) (c : Nat → Nat) (m : Mm) (W : World) : Prop where
  at4 : Sits W w.heap.size 31 (memCells p c m)
  at8 : Sits W (w.heap.size + 1) 31 zeroMem
  low : Below w.heap.size w W
theorem EndAt.grown {w W W' : World} {p : Nat → Option Addr} {c : Nat → Nat} {m : Mm} (h : EndAt w p c m W) (hb : Below W.heap.size W W') : EndAt w p c m W' :=
  ⟨h.at4.below hb h.at4.lt, h.at8.below hb h.at8.lt, h.low.trans (hb.mono h.low.size)⟩
theorem EndAt.out {w W : World} {p : Nat → Option Addr} {c : Nat → Nat} {m : Mm} (h : EndAt w p c m W) {p2 : Nat → Option Addr} {c2 : Nat → Nat} {m2 : Mm} (hh : Hold W p2 c2 m2) (a : Int) :
    GivesE (m2, a) w (.returned (.tuple #[memV p2 c2 m2, .int .i64 a])) (W.setRow (w.heap.size + 1) (memCells p2 c2 m2)) ∧ Sits (W.setRow (w.heap.size + 1) (memCells p2 c2 m2)) (w.heap.size + 1) 31 (memCells p2 c2 m2) :=
  ⟨⟨p2, c2, rfl, hold_row hh h.at8 _, row_low h.low (by omega) _⟩, setRow_heap W _ _ _ _ _ h.at8⟩
set_option maxRecDepth 100000 in
set_option maxHeartbeats 2000000 in
theorem fulfil_any (p : Nat → Option Addr) (c : Nat → Nat) (m : Mm) (hO : OkM m) (loc to owner : Int) (w : World) (hH : Hold w p c m) :
    Calls Try.prog 11 #[memV p c m, .int .i64 loc, .int .i64 to, .int .i64 owner] w (GivesE (fulfilF m loc to owner) w) := by
  have H0 : Hid (EndAt w p c m ((w.alloc (.cells (memCells p c m) 31)).alloc (.cells zeroMem 31))) := Lib.hid
    ⟨(Sits.new _ _ _).alloc _, Sits.made (by simp) _ _, two_low _ _ _⟩
  have HH := Lib.hid hH
  have HO := Lib.hid hO
  clear hH hO
  go_enter Try.func11, Try.ntmps11
  go_upto_region 1 with (fail)
  generalize ((w.alloc (.cells (memCells p c m) 31)).alloc (.cells zeroMem 31)) = w0 at H0 ⊢
  have b0 : w0.cell? ⟨w.heap.size, 0, none⟩ = some (.slice (p 0) (m.row 0).length (c 0)) := H0.out.at4.cell 0
  have b1 : w0.cell? ⟨w.heap.size, 1, none⟩ = some (.slice (p 1) (m.row 1).length (c 1)) := H0.out.at4.cell 1
  have b2 : w0.cell? ⟨w.heap.size, 2, none⟩ = some (.slice (p 2) (m.row 2).length (c 2)) := H0.out.at4.cell 2
  have b3 : w0.cell? ⟨w.heap.size, 3, none⟩ = some (.slice (p 3) (m.row 3).length (c 3)) := H0.out.at4.cell 3
  have b4 : w0.cell? ⟨w.heap.size, 4, none⟩ = some (.int .i64 (m.n : Nat)) := H0.out.at4.cell 4
  have lb := H0.out.at4.lt
  have HFA := Lib.hid (find_any p c m HO.out.fit loc to owner false w0 (HH.out.below H0.out.low))
  go_wp2_with fail
  refine HFA.out.mono ?_
  rintro e w1 ⟨rfl, hb⟩
  have H1 := Lib.hid (H0.out.grown hb)
  clear hb H0 b0 b1 b2 b3 b4 lb HFA
  have b0 : w1.cell? ⟨w.heap.size, 0, none⟩ = some (.slice (p 0) (m.row 0).length (c 0)) := H1.out.at4.cell 0
  have b1 : w1.cell? ⟨w.heap.size, 1, none⟩ = some (.slice (p 1) (m.row 1).length (c 1)) := H1.out.at4.cell 1
  have b2 : w1.cell? ⟨w.heap.size, 2, none⟩ = some (.slice (p 2) (m.row 2).length (c 2)) := H1.out.at4.cell 2
  have b3 : w1.cell? ⟨w.heap.size, 3, none⟩ = some (.slice (p 3) (m.row 3).length (c 3)) := H1.out.at4.cell 3
  have b4 : w1.cell? ⟨w.heap.size, 4, none⟩ = some (.int .i64 (m.n : Nat)) := H1.out.at4.cell 4
  have lb := H1.out.at4.lt
  by_cases he : (findF m loc to owner false).2 = 0
  rotate_left
  · have HR : Hid (fulfilF m loc to owner = (m, (findF m loc to owner false).2)) := Lib.hid (by unfold fulfilF; rw [if_pos he])
    have HG := Lib.hid (H1.out.out (HH.out.below H1.out.low) (findF m loc to owner false).2)
    have k0 : ((findF m loc to owner false).2 != 0) = true := by simpa using he
    clear he
    generalize (findF m loc to owner false).2 = z at HR HG k0
    generalize (findF m loc to owner false).1 = y
    go_wp2_with (refine wpList_store_row rfl 31 _ _ rfl (w.heap.size + 1) (memCells p c m) rfl rfl 31 _ H1.out.at8 memSize rfl (mem_one _ _ _) ?_)
    generalize w1.setRow (w.heap.size + 1) (memCells p c m) = W3 at HG ⊢
    clear b0 b1 b2 b3 b4 lb
    have s := HG.out.2
    have b0 : W3.cell? ⟨w.heap.size + 1, 0, none⟩ = some (.slice (p 0) (m.row 0).length (c 0)) := s.cell 0
    have b1 : W3.cell? ⟨w.heap.size + 1, 1, none⟩ = some (.slice (p 1) (m.row 1).length (c 1)) := s.cell 1
    have b2 : W3.cell? ⟨w.heap.size + 1, 2, none⟩ = some (.slice (p 2) (m.row 2).length (c 2)) := s.cell 2
    have b3 : W3.cell? ⟨w.heap.size + 1, 3, none⟩ = some (.slice (p 3) (m.row 3).length (c 3)) := s.cell 3
    have b4 : W3.cell? ⟨w.heap.size + 1, 4, none⟩ = some (.int .i64 (m.n : Nat)) := s.cell 4
    clear s
    go_wp2_with fail
    exact bodyPost_ret (v := .tuple #[memV p c m, .int .i64 z]) (by simp [results, Try.results11, go_sem, b0, b1, b2, b3, b4]) rfl (by rw [HR.out]; exact HG.out.1)
  obtain ⟨k, t, y, hh⟩ := find_hit he
  have HR := Lib.hid (fulfil_hit hh he)
  have hk4 : k < 4 := by have := HO.out.most; have := hh.lt; omega
  have bk := mem_at H1.out.at4 k hk4
  have HL := Lib.hid (HO.out.each k hh.lt)
  have hty := (List.getElem?_eq_some_iff.1 hh.at_).1
  have HTY := Lib.hid hty
  obtain ⟨g, o, hp, lg, hc⟩ := ((HH.out.row k hk4).below H1.out.low).there hh.at_
  obtain ⟨c0, c1, c2, c3, c4, c5, c6, c7, c8, c9, c10, c11, c12⟩ := hc
  have HP := Lib.hid hp
  rw [hp] at bk
  have j4 : (k : Int) < 4 := by omega
  have j0 : (0 : Int) ≤ (k : Int) := by omega
  have t0 : (0 : Int) ≤ (t : Int) := by omega
  have t1 : (t : Int) < ((m.row k).length : Int) := by omega
  have i40 : ((m.row k).length : Int) ≤ 40 := by have := HL.out.few; omega
  have HK4 := Lib.hid hk4
  have hidx := hh.idx
  obtain rfl := hh.locK
  clear hh hty hp hk4
  rw [he, hidx]
  clear he hidx
  go_upto_region 6 with (fail)
  have S1 : Hid (Sits (w1.alloc (.cells (freeCells y) 57)) w1.heap.size 57 (itCells (freeI y))) := Lib.hid (Sits.new w1 57 (itCells (freeI y)))
  have S2 : Hid (Below w1.heap.size w1 (w1.alloc (.cells (freeCells y) 57))) := Lib.hid (one_low w1 _)
  generalize w1.alloc (.cells (freeCells y) 57) = w2 at S1 S2 ⊢
  have H2 := Lib.hid (H1.out.grown S2.out)
  clear b0 b1 b2 b3 b4 lb bk c0 c1 c2 c3 c4 c5 c6 c7 c8 c9 c10 c11 c12 lg
  have b0 : w2.cell? ⟨w.heap.size, 0, none⟩ = some (.slice (p 0) (m.row 0).length (c 0)) := H2.out.at4.cell 0
  have b1 : w2.cell? ⟨w.heap.size, 1, none⟩ = some (.slice (p 1) (m.row 1).length (c 1)) := H2.out.at4.cell 1
  have b2 : w2.cell? ⟨w.heap.size, 2, none⟩ = some (.slice (p 2) (m.row 2).length (c 2)) := H2.out.at4.cell 2
  have b3 : w2.cell? ⟨w.heap.size, 3, none⟩ = some (.slice (p 3) (m.row 3).length (c 3)) := H2.out.at4.cell 3
  have b4 : w2.cell? ⟨w.heap.size, 4, none⟩ = some (.int .i64 (m.n : Nat)) := H2.out.at4.cell 4
  have lb := H2.out.at4.lt
  obtain ⟨c0, c1, c2, c3, c4, c5, c6, c7, c8, c9, c10, c11, c12⟩ := itAt_sits S1.out
  have l12 := S1.out.lt
  have HW : Hid (Calls Try.prog 39 #[memV p c m, .int .i64 (k : Nat), .int .i64 (t : Nat), .int .i64 ((t : Int) + 1), .slice (some ⟨w2.heap.size, 0, none⟩) 1 1] (w2.alloc (.cells (itCells (freeI y)) 57)) (GivesM (withF m k t (t + 1) [freeI y]) (w2.alloc (.cells (itCells (freeI y)) 57)))) := Lib.hid (by
    have := with_any p c m k t (t + 1) HK4.out (by have := HTY.out; omega) (by have := HTY.out; omega) HL.out.one HL.out.few (some ⟨w2.heap.size, 0, none⟩) 1 [freeI y] (by simp) (w2.alloc (.cells (itCells (freeI y)) 57)) ((HH.out.below H2.out.low).below (one_low _ _)) (its_new (Sits.new _ _ _))
    rw [show (((t + 1 : Nat) : Nat) : Int) = (t : Int) + 1 by omega] at this
    exact this)
  generalize withF m k t (t + 1) [freeI y] = m2 at HW HR
  generalize freeI y = z at c0 c1 c2 c3 c4 c5 c6 c7 c8 c9 c10 c11 c12 HW
  go_wp2_with fail
  refine HW.out.mono ?_
  rintro e w4 ⟨q2, d2, rfl, hh, hb⟩
  have H4 := Lib.hid ((H2.out.grown (one_low _ _)).grown hb)
  have HG := Lib.hid (H4.out.out hh 0)
  clear hb hh H2 b0 b1 b2 b3 b4 lb c0 c1 c2 c3 c4 c5 c6 c7 c8 c9 c10 c11 c12 l12 HW
  go_wp2_with (refine wpList_store_row rfl 31 _ _ rfl (w.heap.size + 1) (memCells q2 d2 m2) rfl rfl 31 _ H4.out.at8 memSize rfl (mem_one _ _ _) ?_)
  generalize w4.setRow (w.heap.size + 1) (memCells q2 d2 m2) = W3 at HG ⊢
  have s := HG.out.2
  have b0 : W3.cell? ⟨w.heap.size + 1, 0, none⟩ = some (.slice (q2 0) (m2.row 0).length (d2 0)) := s.cell 0
  have b1 : W3.cell? ⟨w.heap.size + 1, 1, none⟩ = some (.slice (q2 1) (m2.row 1).length (d2 1)) := s.cell 1
  have b2 : W3.cell? ⟨w.heap.size + 1, 2, none⟩ = some (.slice (q2 2) (m2.row 2).length (d2 2)) := s.cell 2
  have b3 : W3.cell? ⟨w.heap.size + 1, 3, none⟩ = some (.slice (q2 3) (m2.row 3).length (d2 3)) := s.cell 3
  have b4 : W3.cell? ⟨w.heap.size + 1, 4, none⟩ = some (.int .i64 (m2.n : Nat)) := s.cell 4
  clear s
  go_wp2_with fail
  exact bodyPost_ret (v := .tuple #[memV q2 d2 m2, .int .i64 0]) (by simp [results, Try.results11, go_sem, b0, b1, b2, b3, b4]) rfl (by rw [HR.out]; exact HG.out.1)
set_option maxRecDepth 100000 in
set_option maxHeartbeats 2000000 in
theorem cancel_any (p : Nat → Option Addr) (c : Nat → Nat) (m : Mm) (hO : OkM m) (loc to owner : Int) (w : World) (hH : Hold w p c m) :
    Calls Try.prog 13 #[memV p c m, .int .i64 loc, .int .i64 to, .int .i64 owner] w (GivesE (cancelF m loc to owner) w) := by
  have H0 : Hid (EndAt w p c m ((w.alloc (.cells (memCells p c m) 31)).alloc (.cells zeroMem 31))) := Lib.hid
    ⟨(Sits.new _ _ _).alloc _, Sits.made (by simp) _ _, two_low _ _ _⟩
  have HH := Lib.hid hH
  have HO := Lib.hid hO
  clear hH hO
  go_enter Try.func13, Try.ntmps13
  go_upto_region 1 with (fail)
  generalize ((w.alloc (.cells (memCells p c m) 31)).alloc (.cells zeroMem 31)) = w0 at H0 ⊢
  have b0 : w0.cell? ⟨w.heap.size, 0, none⟩ = some (.slice (p 0) (m.row 0).length (c 0)) := H0.out.at4.cell 0
  have b1 : w0.cell? ⟨w.heap.size, 1, none⟩ = some (.slice (p 1) (m.row 1).length (c 1)) := H0.out.at4.cell 1
  have b2 : w0.cell? ⟨w.heap.size, 2, none⟩ = some (.slice (p 2) (m.row 2).length (c 2)) := H0.out.at4.cell 2
  have b3 : w0.cell? ⟨w.heap.size, 3, none⟩ = some (.slice (p 3) (m.row 3).length (c 3)) := H0.out.at4.cell 3
  have b4 : w0.cell? ⟨w.heap.size, 4, none⟩ = some (.int .i64 (m.n : Nat)) := H0.out.at4.cell 4
  have lb := H0.out.at4.lt
  have HFA := Lib.hid (find_any p c m HO.out.fit loc to owner true w0 (HH.out.below H0.out.low))
  go_wp2_with fail
  refine HFA.out.mono ?_
  rintro e w1 ⟨rfl, hb⟩
  have H1 := Lib.hid (H0.out.grown hb)
  clear hb H0 b0 b1 b2 b3 b4 lb HFA
  have b0 : w1.cell? ⟨w.heap.size, 0, none⟩ = some (.slice (p 0) (m.row 0).length (c 0)) := H1.out.at4.cell 0
  have b1 : w1.cell? ⟨w.heap.size, 1, none⟩ = some (.slice (p 1) (m.row 1).length (c 1)) := H1.out.at4.cell 1
  have b2 : w1.cell? ⟨w.heap.size, 2, none⟩ = some (.slice (p 2) (m.row 2).length (c 2)) := H1.out.at4.cell 2
  have b3 : w1.cell? ⟨w.heap.size, 3, none⟩ = some (.slice (p 3) (m.row 3).length (c 3)) := H1.out.at4.cell 3
  have b4 : w1.cell? ⟨w.heap.size, 4, none⟩ = some (.int .i64 (m.n : Nat)) := H1.out.at4.cell 4
  have lb := H1.out.at4.lt
  by_cases he : (findF m loc to owner true).2 = 0
  rotate_left
  · have HR : Hid (cancelF m loc to owner = (m, (findF m loc to owner true).2)) := Lib.hid (by unfold cancelF; rw [if_pos he])
    have HG := Lib.hid (H1.out.out (HH.out.below H1.out.low) (findF m loc to owner true).2)
    have k0 : ((findF m loc to owner true).2 != 0) = true := by simpa using he
    clear he
    generalize (findF m loc to owner true).2 = z at HR HG k0
    generalize (findF m loc to owner true).1 = y
    go_wp2_with (refine wpList_store_row rfl 31 _ _ rfl (w.heap.size + 1) (memCells p c m) rfl rfl 31 _ H1.out.at8 memSize rfl (mem_one _ _ _) ?_)
    generalize w1.setRow (w.heap.size + 1) (memCells p c m) = W3 at HG ⊢
    clear b0 b1 b2 b3 b4 lb
    have s := HG.out.2
    have b0 : W3.cell? ⟨w.heap.size + 1, 0, none⟩ = some (.slice (p 0) (m.row 0).length (c 0)) := s.cell 0
    have b1 : W3.cell? ⟨w.heap.size + 1, 1, none⟩ = some (.slice (p 1) (m.row 1).length (c 1)) := s.cell 1
    have b2 : W3.cell? ⟨w.heap.size + 1, 2, none⟩ = some (.slice (p 2) (m.row 2).length (c 2)) := s.cell 2
    have b3 : W3.cell? ⟨w.heap.size + 1, 3, none⟩ = some (.slice (p 3) (m.row 3).length (c 3)) := s.cell 3
    have b4 : W3.cell? ⟨w.heap.size + 1, 4, none⟩ = some (.int .i64 (m.n : Nat)) := s.cell 4
    clear s
    go_wp2_with fail
    exact bodyPost_ret (v := .tuple #[memV p c m, .int .i64 z]) (by simp [results, Try.results13, go_sem, b0, b1, b2, b3, b4]) rfl (by rw [HR.out]; exact HG.out.1)
  obtain ⟨k, t, y, hh⟩ := find_hit he
  have HR := Lib.hid (cancel_hit hh he)
  have hk4 : k < 4 := by have := HO.out.most; have := hh.lt; omega
  have bk := mem_at H1.out.at4 k hk4
  have HL := Lib.hid (HO.out.each k hh.lt)
  have hty := (List.getElem?_eq_some_iff.1 hh.at_).1
  have HTY := Lib.hid hty
  obtain ⟨g, o, hp, lg, hc⟩ := ((HH.out.row k hk4).below H1.out.low).there hh.at_
  obtain ⟨c0, c1, c2, c3, c4, c5, c6, c7, c8, c9, c10, c11, c12⟩ := hc
  have HP := Lib.hid hp
  rw [hp] at bk
  have j4 : (k : Int) < 4 := by omega
  have j0 : (0 : Int) ≤ (k : Int) := by omega
  have t0 : (0 : Int) ≤ (t : Int) := by omega
  have t1 : (t : Int) < ((m.row k).length : Int) := by omega
  have i40 : ((m.row k).length : Int) ≤ 40 := by have := HL.out.few; omega
  have HK4 := Lib.hid hk4
  have hidx := hh.idx
  obtain rfl := hh.locK
  clear hh hty hp hk4
  rw [he, hidx]
  clear he hidx
  have HW : Hid (Calls Try.prog 39 #[memV p c m, .int .i64 (k : Nat), .int .i64 (t : Nat), .int .i64 ((t : Int) + 1), .slice none 0 0] w1 (GivesM (withF m k t (t + 1) []) w1)) := Lib.hid (by
    have := with_any p c m k t (t + 1) HK4.out (by have := HTY.out; omega) (by have := HTY.out; omega) HL.out.one HL.out.few none 0 [] (by simp) w1 (HH.out.below H1.out.low) (Its.nil _ _)
    rw [show (((t + 1 : Nat) : Nat) : Int) = (t : Int) + 1 by omega] at this
    exact this)
  generalize withF m k t (t + 1) [] = m2 at HW HR
  clear bk c0 c1 c2 c3 c4 c5 c6 c7 c8 c9 c10 c11 c12 lg
  go_wp2_with fail
  refine HW.out.mono ?_
  rintro e w4 ⟨q2, d2, rfl, hh, hb⟩
  have H4 := Lib.hid (H1.out.grown hb)
  have HG := Lib.hid (H4.out.out hh 0)
  clear hb hh H1 b0 b1 b2 b3 b4 lb HW
  go_wp2_with (refine wpList_store_row rfl 31 _ _ rfl (w.heap.size + 1) (memCells q2 d2 m2) rfl rfl 31 _ H4.out.at8 memSize rfl (mem_one _ _ _) ?_)
  generalize w4.setRow (w.heap.size + 1) (memCells q2 d2 m2) = W3 at HG ⊢
  have s := HG.out.2
  have b0 : W3.cell? ⟨w.heap.size + 1, 0, none⟩ = some (.slice (q2 0) (m2.row 0).length (d2 0)) := s.cell 0
  have b1 : W3.cell? ⟨w.heap.size + 1, 1, none⟩ = some (.slice (q2 1) (m2.row 1).length (d2 1)) := s.cell 1
  have b2 : W3.cell? ⟨w.heap.size + 1, 2, none⟩ = some (.slice (q2 2) (m2.row 2).length (d2 2)) := s.cell 2
  have b3 : W3.cell? ⟨w.heap.size + 1, 3, none⟩ = some (.slice (q2 3) (m2.row 3).length (d2 3)) := s.cell 3
  have b4 : W3.cell? ⟨w.heap.size + 1, 4, none⟩ = some (.int .i64 (m2.n : Nat)) := s.cell 4
  clear s
  go_wp2_with fail
  exact bodyPost_ret (v := .tuple #[memV q2 d2 m2, .int .i64 0]) (by simp [results, Try.results13, go_sem, b0, b1, b2, b3, b4]) rfl (by rw [HR.out]; exact HG.out.1)
end Go.Proofs.Ytokkcbhmmhmfmaa.Mmr
