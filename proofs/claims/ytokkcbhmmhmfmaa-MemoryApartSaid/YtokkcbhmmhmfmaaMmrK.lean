/- Layer 11 (memory): Owned. -/
import Derived.Test.YtokkcbhmmhmfmaaMmrJ
namespace Go.Proofs.Ytokkcbhmmhmfmaa.Mmr
open Go.RowKit Go.Proofs.Ytokkcbhmmhmfmaa.Mem Go.Proofs.Ytokkcbhmmhmfmaa.Flow

theorem Cut.below {e : TypeId} {size B : Nat} {w w' : World} {r : Option Addr} {n d : Nat} {xs : List Value} (h : Cut e size B w r n d xs) (hb : Below w.heap.size w w') : Cut e size B w' r n d xs :=
  ⟨h.lay.below hb, h.len, h.room, h.way.imp id fun ⟨h1, h2⟩ => ⟨h1, h2.imp id fun ⟨g, cap, cur, e1, e2, e3, e4⟩ => ⟨g, cap, cur, e1, e2, (hb.block g (lt_of_block e3)).trans e3, e4⟩⟩⟩
theorem Cut.empty (e : TypeId) (size B : Nat) (w : World) : Cut e size B w none 0 0 [] := ⟨fun j u h => by simp at h, by simp, Nat.le_refl _, .inl rfl⟩
theorem idx_sl (p : Nat → Option Addr) (c : Nat → Nat) (m : Mm) : ∀ (j : Nat), j < 4 → ∀ W, (Instr.index 29 (.agg #[.slice (p 0) (m.row 0).length (c 0), .slice (p 1) (m.row 1).length (c 1), .slice (p 2) (m.row 2).length (c 2), .slice (p 3) (m.row 3).length (c 3)]) (.int .i64 (j : Int))).run Try.prog W = .ok (.slice (p j) (m.row j).length (c j)) W
  | 0, _, W => Vew.run_index_array Try.underlying29 Try.sizeOf28 Try.isAgg28 (by decide) rfl W
  | 1, _, W => Vew.run_index_array Try.underlying29 Try.sizeOf28 Try.isAgg28 (by decide) rfl W
  | 2, _, W => Vew.run_index_array Try.underlying29 Try.sizeOf28 Try.isAgg28 (by decide) rfl W
  | 3, _, W => Vew.run_index_array Try.underlying29 Try.sizeOf28 Try.isAgg28 (by decide) rfl W
  | (n + 4), h, _ => absurd h (by omega)
def ofs (owner : Int) (l : List It) : List It := l.filter fun x => decide (x.owner = owner)
def sofar (m : Mm) (owner : Int) (j k : Nat) : List It := ofs owner ((List.range j).flatMap m.row ++ (m.row j).take k)
theorem ofs_len (owner : Int) (l : List It) : (ofs owner l).length ≤ l.length := List.length_filter_le _ _
theorem sofar_end (m : Mm) (owner : Int) (j : Nat) : sofar m owner j (m.row j).length = sofar m owner (j + 1) 0 := by
  unfold sofar
  rw [List.take_length, List.take_zero, List.append_nil, List.range_succ, List.flatMap_append]
  simp
theorem sofar_all (m : Mm) (owner : Int) : sofar m owner 4 0 = ownedF m owner := by
  unfold sofar ofs ownedF; rw [List.take_zero, List.append_nil]
theorem sofar_yes (m : Mm) (owner : Int) (j k : Nat) (x : It) (h : (m.row j)[k]? = some x) (hx : x.owner = owner) : sofar m owner j (k + 1) = sofar m owner j k ++ [x] := by
  unfold sofar ofs
  rw [List.take_add_one, h, Option.toList_some, ← List.append_assoc, List.filter_append]
  congr 1
  simp [hx]
theorem sofar_no (m : Mm) (owner : Int) (j k : Nat) (x : It) (h : (m.row j)[k]? = some x) (hx : x.owner ≠ owner) : sofar m owner j (k + 1) = sofar m owner j k := by
  unfold sofar ofs
  rw [List.take_add_one, h, Option.toList_some, ← List.append_assoc, List.filter_append]
  simp [hx]
theorem flat_len (m : Mm) (h : ∀ i, (m.row i).length ≤ 40) (j : Nat) : ((List.range j).flatMap m.row).length ≤ j * 40 := by
  induction j with
  | zero => simp
  | succ j ih => rw [List.range_succ, List.flatMap_append, List.length_append, List.flatMap_cons, List.flatMap_nil, List.append_nil]; have := h j; omega
theorem sofar_len (m : Mm) (h : ∀ i, (m.row i).length ≤ 40) (owner : Int) (j k : Nat) : (sofar m owner j k).length ≤ (j + 1) * 40 := by
  unfold sofar
  refine Nat.le_trans (ofs_len _ _) ?_
  rw [List.length_append, List.length_take]
  have := flat_len m h j
  have := h j
  omega
structure OwnAt (w : World) (r : Option Addr) (d : Nat) (l : List It) (W : World) : Prop where
  cut : Cut 57 13 w.heap.size W r l.length d (cellsOf itL l)
  low : Below w.heap.size w W
theorem OwnAt.grown {w W W' : World} {r : Option Addr} {d : Nat} {l : List It} (h : OwnAt w r d l W) (hb : Below W.heap.size W W') : OwnAt w r d l W' := ⟨h.cut.below hb, h.low.trans (hb.mono h.low.size)⟩
set_option maxRecDepth 100000 in
set_option maxHeartbeats 2000000 in
theorem owned_any (p : Nat → Option Addr) (c : Nat → Nat) (m : Mm) (hf : ∀ i, (m.row i).length ≤ 40) (owner : Int) (w : World) (hH : Hold w p c m) :
    Calls Try.prog 26 #[memV p c m, .int .i64 owner] w (GivesL (ownedF m owner) w) := by
  have HH := Lib.hid hH
  have HF := Lib.hid hf
  have HB := Lib.hid (one_low w (.cells (memCells p c m) 31))
  have HS := Lib.hid (Sits.new w 31 (memCells p c m))
  have HI := idx_sl p c m
  clear hH hf
  go_enter Try.func26, Try.ntmps26
  go_upto_region 1 with (fail)
  generalize w.alloc (.cells (memCells p c m) 31) = w0 at HB HS ⊢
  have b0 : w0.cell? ⟨w.heap.size, 0, none⟩ = some (.slice (p 0) (m.row 0).length (c 0)) := HS.out.cell 0
  have b1 : w0.cell? ⟨w.heap.size, 1, none⟩ = some (.slice (p 1) (m.row 1).length (c 1)) := HS.out.cell 1
  have b2 : w0.cell? ⟨w.heap.size, 2, none⟩ = some (.slice (p 2) (m.row 2).length (c 2)) := HS.out.cell 2
  have b3 : w0.cell? ⟨w.heap.size, 3, none⟩ = some (.slice (p 3) (m.row 3).length (c 3)) := HS.out.cell 3
  have lb := HS.out.lt
  have H0 : Hid (OwnAt w none 0 (sofar m owner 0 0) w0) := Lib.hid ⟨by unfold sofar ofs; exact Cut.empty _ _ _ _, HB.out⟩
  go_wp2_with fail
  clear b0 b1 b2 b3 lb
  go_loopg [5, 12] 4 (fun gg v5 v12 wx => ∃ j r d, j ≤ 4 ∧ gg = 4 - j ∧ v12 = .int .i64 (j : Nat) ∧ v5 = .slice r (sofar m owner j 0).length d ∧ Hid (OwnAt w r d (sofar m owner j 0) wx))
  case atStart => exact ⟨0, none, 0, by omega, by omega, rfl, by unfold sofar ofs; rfl, H0⟩
  case round =>
    obtain ⟨j, r, d, hj, rfl, rfl, rfl, HO⟩ := hrel
    by_cases hlt : j < 4
    · have hi := HI j hlt
      have j4 : (j : Int) < 4 := by omega
      have j0 : (0 : Int) ≤ (j : Int) := by omega
      have HJ := Lib.hid hlt
      have HIJ := Lib.hid (HH.out.row j hlt)
      generalize p j = q at hi HIJ
      have i40 : ((m.row j).length : Int) ≤ 40 := by have := HF.out j; omega
      clear hlt hj
      go_wp2_with fail
      go_loopg [5, 17] (m.row j).length (fun gg v5 v17 wx => ∃ k r d, k ≤ (m.row j).length ∧ gg = (m.row j).length - k ∧ v17 = .int .i64 (k : Nat) ∧ v5 = .slice r (sofar m owner j k).length d ∧ Hid (OwnAt w r d (sofar m owner j k) wx))
      case atStart => exact ⟨0, r, d, by omega, by omega, rfl, rfl, HO⟩
      case round =>
        obtain ⟨k, r2, d2, hk, rfl, rfl, rfl, HO2⟩ := hrel
        by_cases hlt : k < (m.row j).length
        · have hx : (m.row j)[k]? = some (m.row j)[k] := List.getElem?_eq_getElem hlt
          have HX := Lib.hid hx
          obtain ⟨g, o, rfl, lg, hc⟩ := (HIJ.out.below HO2.out.low).there hx
          generalize (m.row j)[k] = x at hx hc HX
          obtain ⟨c0, c1, c2, c3, c4, c5, c6, c7, c8, c9, c10, c11, c12⟩ := hc
          have k1 : (k : Int) < ((m.row j).length : Int) := by omega
          have k0 : (0 : Int) ≤ (k : Int) := by omega
          have HKL := Lib.hid hlt
          have HS4 := Lib.hid (sofar_len m HF.out owner j k)
          clear hx hlt hk
          by_cases ho : x.owner = owner
          · have HY := Lib.hid (sofar_yes m owner j k x HX.out ho)
            have ho' : (x.owner == owner) = true := by simpa using ho
            clear ho
            go_upto_region 8 with (fail)
            have HN1 := Lib.hid (HO2.out.grown (one_low wr (.cells (itCells x) 57)))
            have HN2 := Lib.hid (Sits.new wr 57 (itCells x))
            generalize wr.alloc (.cells (itCells x) 57) = w1 at HN1 HN2 ⊢
            clear c0 c1 c2 c3 c4 c5 c6 c7 c8 c9 c10 c11 c12 lg
            obtain ⟨c0, c1, c2, c3, c4, c5, c6, c7, c8, c9, c10, c11, c12⟩ := itAt_sits HN2.out
            have lg := HN2.out.lt
            have HI1 := Lib.hid (its_new (Sits.new w1 57 (itCells x)))
            have HCT := Lib.hid (HN1.out.cut.below (one_low w1 (.cells (itCells x) 57)))
            go_wp2_with (at_builtin; refine wpList_append_cut rowIt rfl _ _ rfl (B := w.heap.size) (r := r2) (n := (sofar m owner j k).length) (d := d2) (xs := cellsOf itL (sofar m owner j k)) rfl HCT.out (by have := HN1.out.low.size; simp; omega) (some ⟨w1.heap.size, 0, none⟩) 1 1 (cellsOf itL [x]) rfl rfl HI1.out.lay (its_one [x]) (by unfold maxLen; have := HS4.out; have := HJ.out; omega) (by have := HS4.out; have := HJ.out; omega) ?_)
            intro r' d' w' hb hc
            have HO3 : Hid (OwnAt w r' d' (sofar m owner j (k + 1)) w') := Lib.hid (by
              rw [HY.out]
              refine ⟨by rw [cells_append, List.length_append]; exact hc, ((HN1.out.low.alloc HN1.out.low.size _).trans (hb.mono (Nat.le_refl _)))⟩)
            have HLN := Lib.hid (show (sofar m owner j (k + 1)).length = (sofar m owner j k).length + 1 by rw [HY.out]; simp)
            clear hb hc
            go_wp2_with fail
            go_roundg ((m.row j).length - (k + 1))
            case measure => have := HKL.out; omega
            case rel => exact ⟨k + 1, r', d', by have := HKL.out; omega, rfl, by go_num, by rw [HLN.out], HO3⟩
          · have HY := Lib.hid (sofar_no m owner j k x HX.out ho)
            have ho' : (x.owner == owner) = false := by simpa using ho
            clear ho
            have HO3 : Hid (OwnAt w r2 d2 (sofar m owner j (k + 1)) (wr.alloc (.cells (itCells x) 57))) := Lib.hid (by rw [HY.out]; exact HO2.out.grown (one_low _ _))
            have HLN := Lib.hid (show (sofar m owner j (k + 1)).length = (sofar m owner j k).length by rw [HY.out])
            go_wp2_with fail
            go_roundg ((m.row j).length - (k + 1))
            case measure => have := HKL.out; omega
            case rel => exact ⟨k + 1, r2, d2, by have := HKL.out; omega, rfl, by go_num, by rw [HLN.out], HO3⟩
        · obtain rfl : k = (m.row j).length := by omega
          rw [sofar_end] at HO2 ⊢
          clear hlt hk
          go_wp2_with fail
          go_roundg (4 - (j + 1))
          case measure => have := HJ.out; omega
          case rel => exact ⟨j + 1, r2, d2, by have := HJ.out; omega, rfl, by go_num, rfl, HO2⟩
    · obtain rfl : j = 4 := by omega
      rw [sofar_all] at HO ⊢
      clear hlt hj
      go_wp2_with fail
      go_ret
      exact ⟨r, d, rfl, HO.out.cut.lay.its, HO.out.low⟩
end Go.Proofs.Ytokkcbhmmhmfmaa.Mmr
