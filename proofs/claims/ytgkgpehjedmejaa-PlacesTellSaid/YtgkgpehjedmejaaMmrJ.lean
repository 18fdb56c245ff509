/- Layer 11 (memory): Begin, Locs, List, Owned. -/
import Derived.Test.YtgkgpehjedmejaaMmrI
namespace Go.Proofs.Ytgkgpehjedmejaa.Mmr
open Go.RowKit Go.Proofs.Ytgkgpehjedmejaa.Mem Go.Proofs.Ytgkgpehjedmejaa.Flow

def NilOr (l : List It) (w : World) (e : Ending) (w' : World) : Prop := ∃ r d, e = .returned (.slice r l.length d) ∧ Its w' r l ∧ Below w.heap.size w w'
set_option maxRecDepth 100000 in
set_option maxHeartbeats 1000000 in
theorem list_any (p : Nat → Option Addr) (c : Nat → Nat) (m : Mm) (hO : OkM m) (loc : Int) (w : World) (hH : Hold w p c m) :
    Calls Try.prog 20 #[memV p c m, .int .i64 loc] w (GivesL (listF m loc) w) := by
  have HH := Lib.hid hH
  have HO := Lib.hid hO
  have HB := Lib.hid (one_low w (.cells (memCells p c m) 28))
  have HS := Lib.hid (Sits.new w 28 (memCells p c m))
  clear hH hO
  go_enter Try.func20, Try.ntmps20
  go_upto_region 1 with (fail)
  generalize w.alloc (.cells (memCells p c m) 28) = w0 at HB HS ⊢
  have b0 : w0.cell? ⟨w.heap.size, 0, none⟩ = some (.slice (p 0) (m.row 0).length (c 0)) := HS.out.cell 0
  have b1 : w0.cell? ⟨w.heap.size, 1, none⟩ = some (.slice (p 1) (m.row 1).length (c 1)) := HS.out.cell 1
  have b2 : w0.cell? ⟨w.heap.size, 2, none⟩ = some (.slice (p 2) (m.row 2).length (c 2)) := HS.out.cell 2
  have b3 : w0.cell? ⟨w.heap.size, 3, none⟩ = some (.slice (p 3) (m.row 3).length (c 3)) := HS.out.cell 3
  have b4 : w0.cell? ⟨w.heap.size, 4, none⟩ = some (.int .i64 (m.n : Nat)) := HS.out.cell 4
  have lb := HS.out.lt
  go_wp2_with fail
  refine (has_any p c m loc w0).mono ?_
  rintro e w1 ⟨rfl, hb⟩
  have HB1 := Lib.hid (HB.out.trans (hb.mono HB.out.size))
  have HS1 := Lib.hid (HS.out.below hb HS.out.lt)
  clear hb b0 b1 b2 b3 b4 lb HS HB
  cases hh : hasF m loc
  · have HR : Hid (listF m loc = []) := Lib.hid (by unfold listF; rw [hh]; rfl)
    clear hh
    go_wp2_with fail
    go_ret
    exact ⟨none, 0, by rw [HR.out]; rfl, by rw [HR.out]; exact Its.nil _ _, HB1.out⟩
  obtain ⟨hl0, hl1⟩ := has_iff.1 hh
  obtain ⟨k, rfl⟩ : ∃ k : Nat, loc = (k : Nat) := ⟨loc.toNat, by omega⟩
  have hkn : k < m.n := by omega
  have hk4 : k < 4 := by have := HO.out.most; omega
  have HR : Hid (listF m k = m.row k) := Lib.hid (by unfold listF; rw [hh, if_pos rfl]; rfl)
  have bk := mem_at HS1.out k hk4
  have lb := HS1.out.lt
  have hI := (HH.out.row k hk4).below HB1.out
  have HL := HO.out.each k hkn
  obtain ⟨g, o, hp⟩ : ∃ g o, p k = some ⟨g, o, none⟩ := by
    obtain ⟨g, o, hp, _, _⟩ := hI.at (List.getElem?_eq_getElem (by have := HL.one; omega : 0 < (m.row k).length))
    exact ⟨g, o, hp⟩
  rw [hp] at bk hI
  have HC := Lib.hid (clone_any (m.row k) g o (c k) (by have := HL.few; omega) w1 hI)
  have j4 : (k : Int) < 4 := by omega
  have j0 : (0 : Int) ≤ (k : Int) := by omega
  clear hh hl0 hl1 hkn hk4 hI HL hp
  go_wp2_with fail
  refine HC.out.mono ?_
  rintro e w2 ⟨r, d, rfl, hI, hb⟩
  have HB2 := Lib.hid (HB1.out.trans (hb.mono HB1.out.size))
  have HI := Lib.hid hI
  clear hb hI HB1 HS1 bk lb HC
  go_wp2_with fail
  go_ret
  exact ⟨r, d, by rw [HR.out]; rfl, by rw [HR.out]; exact HI.out, HB2.out⟩

/-! ### Begin -/
/-- Numbers lie there. -/
def Nums (w : World) (p : Option Addr) (l : List Int) : Prop := ∀ k x, l[k]? = some x → ∃ g o, p = some ⟨g, o, none⟩ ∧ g < w.heap.size ∧ w.cell? ⟨g, o + k, none⟩ = some (.int .u64 x)
theorem Nums.below {w w' : World} {p : Option Addr} {l : List Int} (h : Nums w p l) (hb : Below w.heap.size w w') : Nums w' p l := fun k x hx => by
  obtain ⟨g, o, e, hg, hc⟩ := h k x hx
  exact ⟨g, o, e, Nat.lt_of_lt_of_le hg hb.size, (hb.cell (p := ⟨g, o + k, none⟩) hg).trans hc⟩
def noMem : Mm := ⟨0, fun _ => []⟩
def beginE (l : List Int) : Mm × Int := if l.length < 1 ∨ 4 < l.length then (noMem, 1) else (beginL l, 0)
/-- Begin's memory, with so many locations laid. -/
def part (l : List Int) (k : Nat) : Mm := ⟨l.length, fun i => if i < k then (beginL l).row i else []⟩
theorem part_all (l : List Int) : part l l.length = beginL l := by
  unfold part beginL
  congr 1
  funext i
  by_cases h : i < l.length
  · rw [if_pos h]
  · rw [if_neg h, List.getElem?_eq_none (by omega)]
theorem part_next (l : List Int) (k : Nat) (x : Int) (h : l[k]? = some x) : part l (k + 1) = put (part l k) k [⟨(k : Nat), 0, 0, x, Vew.zeroF, false, -1⟩] := by
  unfold part put beginL
  congr 1
  funext i
  by_cases e : i = k
  · subst e; simp [h]
  · simp only [if_neg e]
    by_cases h2 : i < k
    · rw [if_pos (by omega), if_pos h2]
    · rw [if_neg (by omega), if_neg h2]
structure BeginAt (w : World) (m : Mm) (W : World) : Prop where
  at2 : Sits W w.heap.size 28 zeroMem
  at4 : ∃ p c, Sits W (w.heap.size + 1) 28 (memCells p c m) ∧ Hold W p c m
  low : Below w.heap.size w W
abbrev firstCells (loc n : Int) : Array Value := #[.int .i64 loc, .complex .f64 0 0, .int .u64 n, .int .i64 0, .int .i64 0, .int .i64 0, .int .i64 0, .int .i64 0, .int .i64 0, .int .i64 0, .int .i64 0, .bool false, .int .i64 (-1)]
theorem its_put {W : World} {g : Nat} {t : TypeId} {cs : Array Value} {r : Option Addr} {l : List It} (h : Its W r l) (hs : Sits W g t cs) (hc : ∀ u ∈ cs.toList, ∀ k x y, u ≠ .complex k x y) (k : Nat) (u : Value) : Its (W.setCell ⟨g, k, none⟩ u) r l := fun n x hx => by
  obtain ⟨g', o', e, hne, hg, hq⟩ := its_far hs hc h n x hx
  exact ⟨g', o', e, by simpa [World.setCell] using hg, fun i hi => (World.cell?_of_block (a := ⟨g', o' + n * 13 + i, none⟩) (Below.heap_setCell W ⟨g, k, none⟩ _ _ hne)).trans (hq i hi)⟩
theorem first_cells (k : Nat) (n : Int) : itCells ⟨(k : Nat), 0, 0, n, Vew.zeroF, false, -1⟩ = firstCells (k : Nat) n := by
  simp only [itCells, fw_0]; rfl
theorem begin_step {w W : World} {l : List Int} {k : Nat} {x : Int} (hk : k < 4) (h : BeginAt w (part l k) W) {pp : Nat → Option Addr} {cc : Nat → Nat} (hs : Sits W (w.heap.size + 1) 28 (memCells pp cc (part l k))) (hh : Hold W pp cc (part l k))
    (hx : part l (k + 1) = put (part l k) k [⟨(k : Nat), 0, 0, x, Vew.zeroF, false, -1⟩]) :
    BeginAt w (part l (k + 1)) ((W.setCell ⟨w.heap.size + 1, k, none⟩ (.slice (some ⟨W.heap.size, 0, none⟩) 1 1)).alloc (.cells (firstCells (k : Nat) x) 52)) := by
  have hsz : (W.setCell ⟨w.heap.size + 1, k, none⟩ (.slice (some ⟨W.heap.size, 0, none⟩) 1 1)).heap.size = W.heap.size := by simp [World.setCell]
  refine ⟨(h.at2.far (by simp) _).alloc _, ⟨updP pp k (some ⟨W.heap.size, 0, none⟩), updC cc k 1, ?_, ?_⟩, ?_⟩
  · rw [hx]
    have := (hs.put k (.slice (some ⟨W.heap.size, 0, none⟩) 1 1)).alloc (.cells (firstCells (k : Nat) x) 52)
    have e := mem_upd pp cc (part l k) k hk (some ⟨W.heap.size, 0, none⟩) 1 [⟨(k : Nat), 0, 0, x, Vew.zeroF, false, -1⟩]
    rw [← e]
    exact this
  · rw [hx]
    refine ⟨fun i hi => ?_, fun i hi => ?_⟩
    · simp only [updP, put_row]
      by_cases e : i = k
      · rw [if_pos e, if_pos e]
        have := its_new (g := W.heap.size) (x := ⟨(k : Nat), 0, 0, x, Vew.zeroF, false, -1⟩) (W := (W.setCell ⟨w.heap.size + 1, k, none⟩ (.slice (some ⟨W.heap.size, 0, none⟩) 1 1)).alloc (.cells (firstCells (k : Nat) x) 52)) (by rw [first_cells]; exact Sits.made hsz.symm _ _)
        exact this
      · rw [if_neg e, if_neg e]
        exact (its_put (hh.row i hi) hs (mem_plain _ _ _) k _).below (one_low _ _)
    · simp only [updC, put_row]
      by_cases e : i = k
      · rw [if_pos e, if_pos e]; exact Nat.le_refl _
      · rw [if_neg e, if_neg e]; exact hh.cap i hi
  · exact (h.low.setCell (p := ⟨w.heap.size + 1, k, none⟩) (by show w.heap.size ≤ w.heap.size + 1; omega) _).alloc (by rw [hsz]; exact h.low.size) _
set_option maxRecDepth 100000 in
set_option maxHeartbeats 2000000 in
theorem begin_any (p : Option Addr) (c : Nat) (l : List Int) (hl : l.length ≤ 1000) (w : World) (hN : Nums w p l) :
    Calls Try.prog 11 #[.slice p l.length c] w (GivesE (beginE l) w) := by
  have HN := Lib.hid hN
  have i1 : (l.length : Int) ≤ 1000 := by omega
  clear hN
  by_cases h1 : l.length < 1
  · have HR : Hid (beginE l = (noMem, 1)) := Lib.hid (by unfold beginE; rw [if_pos (.inl h1)])
    have k1 : (l.length : Int) < 1 := by omega
    clear h1
    go_enter Try.func11, Try.ntmps11
    go_wp2_with fail
    exact bodyPost_ret (v := .tuple #[memV (fun _ => none) (fun _ => 0) noMem, .int .i64 1]) (by simp [results, Try.results11, go_sem, noMem]) rfl (by rw [HR.out]; exact ⟨_, _, rfl, ⟨fun i _ => Its.nil _ _, fun _ _ => Nat.zero_le _⟩, one_low _ _⟩)
  by_cases h4 : 4 < l.length
  · have HR : Hid (beginE l = (noMem, 1)) := Lib.hid (by unfold beginE; rw [if_pos (.inr h4)])
    have k1 : ¬ (l.length : Int) < 1 := by omega
    have k4 : (4 : Int) < (l.length : Int) := by omega
    clear h1 h4
    go_enter Try.func11, Try.ntmps11
    go_wp2_with fail
    exact bodyPost_ret (v := .tuple #[memV (fun _ => none) (fun _ => 0) noMem, .int .i64 1]) (by simp [results, Try.results11, go_sem, noMem]) rfl (by rw [HR.out]; exact ⟨_, _, rfl, ⟨fun i _ => Its.nil _ _, fun _ _ => Nat.zero_le _⟩, one_low _ _⟩)
  have HR : Hid (beginE l = (beginL l, 0)) := Lib.hid (by unfold beginE; rw [if_neg (by omega)])
  have k1 : ¬ (l.length : Int) < 1 := by omega
  have k4 : ¬ (4 : Int) < (l.length : Int) := by omega
  have HL := Lib.hid (show 1 ≤ l.length ∧ l.length ≤ 4 by omega)
  clear h1 h4 hl
  go_enter Try.func11, Try.ntmps11
  go_upto_region 4 with (fail)
  have H0 : Hid (BeginAt w (part l 0) ((w.alloc (.cells zeroMem 28)).alloc (.cells #[.slice none 0 0, .slice none 0 0, .slice none 0 0, .slice none 0 0, .int .i64 (l.length : Nat)] 28))) := Lib.hid
    ⟨(Sits.new _ _ _).alloc _, ⟨fun _ => none, fun _ => 0, Sits.made (by simp) _ _, ⟨fun i _ => Its.nil _ _, fun _ _ => Nat.zero_le _⟩⟩, two_low _ _ _⟩
  generalize ((w.alloc (.cells zeroMem 28)).alloc (.cells #[.slice none 0 0, .slice none 0 0, .slice none 0 0, .slice none 0 0, .int .i64 (l.length : Nat)] 28)) = w0 at H0 ⊢
  go_wp2_with fail
  go_loopg [21] l.length (fun gg v21 wx => ∃ k, k ≤ l.length ∧ gg = l.length - k ∧ v21 = .int .i64 (k : Nat) ∧ Hid (BeginAt w (part l k) wx))
  case atStart => exact ⟨0, by omega, by omega, rfl, H0⟩
  case round =>
    obtain ⟨k, hk, rfl, rfl, HB⟩ := hrel
    by_cases hlt : k < l.length
    · have hx : l[k]? = some l[k] := List.getElem?_eq_getElem hlt
      have HX := Lib.hid (part_next l k _ hx)
      obtain ⟨g, o, rfl, lg, hc⟩ := (HN.out.below HB.out.low) k _ hx
      generalize l[k] = x at hx hc HX
      have j1 : (k : Int) < (l.length : Int) := by omega
      have j0 : (0 : Int) ≤ (k : Int) := by omega
      have j4 : (k : Int) < 4 := by have := HL.out; omega
      have HK4 := Lib.hid (show k < 4 by omega)
      have HKL := Lib.hid hlt
      obtain ⟨pp, cc, hs4, hh⟩ := HB.out.at4
      have b4 := mem_at hs4 k (by omega)
      have f4 := hs4.free k
      have l4 := hs4.lt
      have HS4 := Lib.hid hs4
      have HH := Lib.hid hh
      clear hx hlt hk hs4 hh
      have HST := Lib.hid (begin_step HK4.out HB.out HS4.out HH.out HX.out)
      go_wp2_with fail
      go_roundg (l.length - (k + 1))
      case measure => have := HKL.out; omega
      case rel => exact ⟨k + 1, by have := HKL.out; omega, rfl, by go_num, HST⟩
    · obtain rfl : k = l.length := by omega
      rw [part_all] at HB
      obtain ⟨pp, cc, hs4, hh⟩ := HB.out.at4
      have HHO := Lib.hid hh
      have b0 : wr.cell? ⟨w.heap.size + 1, 0, none⟩ = some (.slice (pp 0) ((beginL l).row 0).length (cc 0)) := hs4.cell 0
      have b1 : wr.cell? ⟨w.heap.size + 1, 1, none⟩ = some (.slice (pp 1) ((beginL l).row 1).length (cc 1)) := hs4.cell 1
      have b2 : wr.cell? ⟨w.heap.size + 1, 2, none⟩ = some (.slice (pp 2) ((beginL l).row 2).length (cc 2)) := hs4.cell 2
      have b3 : wr.cell? ⟨w.heap.size + 1, 3, none⟩ = some (.slice (pp 3) ((beginL l).row 3).length (cc 3)) := hs4.cell 3
      have b4 : wr.cell? ⟨w.heap.size + 1, 4, none⟩ = some (.int .i64 ((beginL l).n : Nat)) := hs4.cell 4
      have l4 := hs4.lt
      clear hs4 hh hlt hk
      generalize beginL l = m2 at HB HHO HR b0 b1 b2 b3 b4
      have HG : Hid (GivesE (m2, 0) w (.returned (.tuple #[memV pp cc m2, .int .i64 0])) (wr.setRow w.heap.size (memCells pp cc m2)) ∧ Sits (wr.setRow w.heap.size (memCells pp cc m2)) w.heap.size 28 (memCells pp cc m2)) := Lib.hid
        ⟨⟨pp, cc, rfl, hold_row HHO.out HB.out.at2 _, row_low HB.out.low (Nat.le_refl _) _⟩, setRow_heap wr _ _ _ _ _ HB.out.at2⟩
      go_wp2_with (refine wpList_store_row rfl 28 _ _ rfl w.heap.size (memCells pp cc m2) rfl rfl 28 _ HB.out.at2 memSize rfl (mem_one _ _ _) ?_)
      generalize wr.setRow w.heap.size (memCells pp cc m2) = W3 at HG ⊢
      clear b0 b1 b2 b3 b4
      have s := HG.out.2
      have b0 : W3.cell? ⟨w.heap.size, 0, none⟩ = some (.slice (pp 0) (m2.row 0).length (cc 0)) := s.cell 0
      have b1 : W3.cell? ⟨w.heap.size, 1, none⟩ = some (.slice (pp 1) (m2.row 1).length (cc 1)) := s.cell 1
      have b2 : W3.cell? ⟨w.heap.size, 2, none⟩ = some (.slice (pp 2) (m2.row 2).length (cc 2)) := s.cell 2
      have b3 : W3.cell? ⟨w.heap.size, 3, none⟩ = some (.slice (pp 3) (m2.row 3).length (cc 3)) := s.cell 3
      have b4 : W3.cell? ⟨w.heap.size, 4, none⟩ = some (.int .i64 (m2.n : Nat)) := s.cell 4
      clear s
      go_wp2_with fail
      exact bodyPost_ret (v := .tuple #[memV pp cc m2, .int .i64 0]) (by simp [results, Try.results11, go_sem, b0, b1, b2, b3, b4]) rfl (by rw [HR.out]; exact HG.out.1)
end Go.Proofs.Ytgkgpehjedmejaa.Mmr
