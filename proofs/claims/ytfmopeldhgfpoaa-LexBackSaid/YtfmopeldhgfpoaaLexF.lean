/- Layer 2 (lex): the limits: the walk of LexLimits. -/
import Derived.Test.YtfmopeldhgfpoaaLexD
import Derived.Laws.IdiomStrings
namespace Go.Proofs.Ytfmopeldhgfpoaa.Lex
open Go.RowKit

theorem known3 : lexAll [49, 56, 52, 52, 54, 55, 52, 52, 48, 55, 51, 55, 48, 57, 53, 53, 49, 54, 49, 53] =
    .ok [⟨1, [49, 56, 52, 52, 54, 55, 52, 52, 48, 55, 51, 55, 48, 57, 53, 53, 49, 54, 49, 53], 18446744073709551615, 1, 1⟩, ⟨0, [], 0, 1, 21⟩] := by kernel_rfl
theorem known4 : lexAll [97, 32, 49, 56, 52, 52, 54, 55, 52, 52, 48, 55, 51, 55, 48, 57, 53, 53, 49, 54, 49, 54] = .err 4 1 3 := by kernel_rfl
theorem lex_spaces (n : Nat) (p : Nat × Nat) : lex (List.replicate n 32) p = .ok [⟨0, [], 0, p.1, p.2 + n⟩] := by
  induction n generalizing p with
  | zero => exact lex_fin p
  | succ n ih =>
    have h : one (List.replicate (n + 1) 32) = .skip 1 := by rw [List.replicate_succ]; rfl
    rw [lex_skip h, List.replicate_succ]
    show lex (List.replicate n 32) (adv p [32]) = _
    rw [ih]
    have e : adv p [32] = (p.1, p.2 + 1) := rfl
    rw [e, Nat.add_assoc, Nat.add_comm 1 n]
theorem known5 (n : Nat) (h : 4096 = n) : lexAll (List.replicate n 32) = .ok [⟨0, [], 0, 1, 1 + n⟩] := by
  unfold lexAll
  rw [if_pos (by rw [List.length_replicate]; omega), lex_spaces]
theorem known6 (l : List UInt8) (h : l.length = 4097) : lexAll l = .err 4 1 1 := by
  unfold lexAll; rw [if_neg (by omega)]

def zeros (n : Nat) : Array Value := madeCells #[.int .u8 0] n
def fill (c : UInt8) (n : Nat) : ByteArray := ⟨(List.replicate n c).toArray⟩
theorem fill_size (c : UInt8) (n : Nat) : (fill c n).size = n := by show (List.replicate n c).toArray.size = n; simp
theorem byteInfo : (Try.prog.info? 5).map (fun i => (i.zero, i.size, i.bytes)) = some (some (.int .u8 0), 1, 1) := by kernel_rfl
theorem made (w : World) (n : Nat) (hn : 4096 = n) : (Instr.makeSlice 40 (.int .i64 4096) (.int .i64 4096)).run Try.prog w = .ok (.slice (some ⟨w.heap.size, 0, none⟩) 4096 4096) (w.alloc (.cells (zeros n) 5)) := by
  obtain ⟨i0, hi, hz0, hz1, hz2⟩ := info_parts byteInfo
  have h := run_make (P := Try.prog) w 40 5 i0 (.int .u8 0) Try.underlying40 hi hz0 .i64 .i64 4096 4096 (by omega) (by omega) (by rw [hz2]; decide) (by omega)
  rw [hz1] at h
  rw [h]
  have e : zeros n = madeCells (Value.int .u8 0).cells (Int.toNat 4096 * 1) := by
    show madeCells _ n = madeCells _ _
    congr 1
    omega
  rw [e]; rfl
theorem zeros_at (n j : Nat) (hj : j < n) : (zeros n)[j]? = some (.int .u8 0) := by
  unfold zeros
  rw [← Array.getElem?_toList, toList_madeCells_one, List.getElem?_replicate, if_pos hj]
theorem toText (w : World) (c : UInt8) (g cap m n : Nat) (hm : m = n) (hc : ∀ j, j < n → w.cell? ⟨g, j, none⟩ = some (.int .u8 (c.toNat : Int))) :
    (convert 40 9 (.slice (some ⟨g, 0, none⟩) m cap)).run Try.prog w = .ok (.string (fill c n)) w := by
  have h := run_convert_bytes_back (P := Try.prog) w 40 9 5 ⟨g, 0, none⟩ cap (List.replicate n c) Try.underlying40 Try.underlying5 Try.underlying9 (fun j hj => by
    rw [List.length_replicate] at hj
    rw [Addr.add_lit, Nat.zero_add, hc j hj, List.getElem_replicate])
  rw [List.length_replicate, ← hm] at h
  rw [hm] at h ⊢
  exact h
theorem toBytes (w : World) (m n : Nat) (hm : m = n) (hl : n ≤ maxLen) : ∃ cap cs fz, (convert 9 40 (.string (fill 0 n))).run Try.prog w = .ok (.slice (some ⟨w.heap.size, 0, none⟩) m cap) (w.drew.alloc (.cells cs 5 fz)) ∧
    n ≤ cap ∧ cap ≤ maxLen ∧ cs.size = cap ∧ fz = (cap, cap + 1) ∧ ∀ j, j < n → cs[j]? = some (.int .u8 0) := by
  have h := run_bytes_of_string (P := Try.prog) w 9 40 5 (fill 0 n) Try.underlying9 Try.underlying40 Try.underlying5
  have hge := grownCap_ge w (fill 0 n).size 0 5
  have hle := grownCap_le_maxLen w (fill 0 n).size 0 5 (by rw [fill_size]; exact hl)
  have hsz : (bytesRow (fill 0 n) (grownCap w (fill 0 n).size 0 5)).size = grownCap w (fill 0 n).size 0 5 := by
    unfold bytesRow
    rw [Array.size_append, Array.size_map, Array.size_replicate]
    have : (fill 0 n).data.size = (fill 0 n).size := rfl
    omega
  subst hm
  rw [fill_size] at h hge hle hsz
  refine ⟨_, _, _, h, hge, hle, hsz, by rw [hsz], fun j hj => ?_⟩
  have hj' : j < (fill 0 m).data.size := by rw [show (fill 0 m).data.size = m from fill_size 0 m]; exact hj
  rw [bytesRow_at _ _ _ hj']
  congr 2
  show (((List.replicate m (0 : UInt8)).toArray[j]'_).toNat : Int) = 0
  simp

theorem heap_made {w : World} {g : Nat} {o : Obj} (hg : g = w.heap.size) : (w.alloc o).heap[g]? = some o := by rw [hg]; exact heap_alloc_new w o
/-- The row of bytes whose first j are spaces. -/
def Painted (w : World) (G cap n j : Nat) : Prop := ∃ cs, w.heap[G]? = some (.cells cs 5 (cap, cap + 1)) ∧ cs.size = cap ∧ ∀ i, i < n → cs[i]? = some (.int .u8 (if i < j then 32 else 0))
theorem Painted.cell {w : World} {G cap n j i : Nat} (h : Painted w G cap n j) (hi : i < n) : w.cell? ⟨G, i, none⟩ = some (.int .u8 (if i < j then 32 else 0)) := by
  obtain ⟨cs, hh, _, hc⟩ := h
  rw [cell_of_row w G i cs _ _ hh, hc i hi]
theorem Painted.free {w : World} {G cap n j i : Nat} (h : Painted w G cap n j) (hi : i < cap) : w.frozen? ⟨G, i, none⟩ = false := by
  obtain ⟨cs, hh, _, _⟩ := h
  simp [World.frozen?, hh]; omega
theorem Painted.lt {w : World} {G cap n j : Nat} (h : Painted w G cap n j) : G < w.heap.size := by
  obtain ⟨cs, hh, _, _⟩ := h; exact lt_of_block hh
theorem Painted.step {w : World} {G cap n j : Nat} (h : Painted w G cap n j) (hj : j < n) (hn : n ≤ cap) : Painted (w.setCell ⟨G, j, none⟩ (.int .u8 32)) G cap n (j + 1) := by
  obtain ⟨cs, hh, hs, hc⟩ := h
  refine ⟨cs.setIfInBounds j (.int .u8 32), by simp [World.setCell, Array.getElem?_modify, hh], by simpa using hs, fun i hi => ?_⟩
  rw [Array.getElem?_setIfInBounds]
  by_cases e : j = i
  · subst e
    rw [if_pos rfl, if_pos (by omega), if_pos (by omega)]
  · rw [if_neg e, hc i hi]
    by_cases e2 : i < j
    · rw [if_pos e2, if_pos (by omega)]
    · rw [if_neg e2, if_neg (by omega)]

set_option maxHeartbeats 2000000 in
set_option maxRecDepth 100000 in
theorem limits_any (w : World) : Calls Try.prog 5 #[] w fun e w' => Yes w e w' := by
  go_enter Try.func5, Try.ntmps5
  go_wp2_with fail
  refine (lex_all _ _ (by decide)).mono ?_
  rintro e w1 ⟨hb1, hr⟩
  rw [show lexAll (ByteArray.mk #[49, 56, 52, 52, 54, 55, 52, 52, 48, 55, 51, 55, 48, 57, 53, 53, 49, 54, 49, 53]).data.toList = _ from known3] at hr
  obtain ⟨v1, rfl, own1⟩ := hr
  obtain ⟨g, cap, rfl, hg1, hg2, hcap, hcm, hcell⟩ := own_form own1
  clear own1
  have C2 := Lib.hid (show w1.cell? ⟨g, 2, none⟩ = some (.int .u64 18446744073709551615) from hcell 2 _ rfl)
  clear hcell
  go_wp2_with fail
  refine (lex_all _ _ (by decide)).mono ?_
  rintro e w2 ⟨hb2, hr⟩
  rw [show lexAll (ByteArray.mk #[97, 32, 49, 56, 52, 52, 54, 55, 52, 52, 48, 55, 51, 55, 48, 57, 53, 53, 49, 54, 49, 54]).data.toList = _ from known4] at hr
  obtain rfl := hr
  obtain ⟨n, hn⟩ : ∃ n : Nat, 4096 = n := ⟨_, rfl⟩
  have HN := Lib.hid hn; clear hn
  have hm := made (w2.alloc (.cells #[.int .i64 1, .int .i64 3] 25)) n HN.out
  have ht := toText ((w2.alloc (.cells #[.int .i64 1, .int .i64 3] 25)).alloc (.cells (zeros n) 5)) 0 (w2.heap.size + 1) 4096 4096 n HN.out (fun j hj => by
    rw [Sits.cell (Sits.made (by simp) _ _) j]; exact zeros_at n j hj)
  obtain ⟨cap3, cs, fz, hb, hc1, hc2, hcs, hfz, hcz⟩ := toBytes ((w2.alloc (.cells #[.int .i64 1, .int .i64 3] 25)).alloc (.cells (zeros n) 5)) 4096 n HN.out (by have := HN.out; unfold maxLen; omega)
  rw [show ((w2.alloc (.cells #[.int .i64 1, .int .i64 3] 25)).heap.size) = w2.heap.size + 1 by simp] at hm
  rw [show (((w2.alloc (.cells #[.int .i64 1, .int .i64 3] 25)).alloc (.cells (zeros n) 5)).heap.size) = w2.heap.size + 1 + 1 by simp] at hb
  have HF := Lib.hid hfz; clear hfz
  have HS := Lib.hid hcs; clear hcs
  have HZ := Lib.hid hcz; clear hcz
  go_wp2_with fail
  have hlow0 : Below w.heap.size w w2 := (hb1.alloc hb1.size (.cells #[.int .i64 0, .int .i64 0] 25)).trans (hb2.mono (by have := hb1.size; simp; omega))
  have hz2 := hlow0.size
  have hg3 : g < w2.heap.size := by have := hb2.size; simp at this; omega
  have C2' := Lib.hid (((hb2.cell (p := ⟨g, 2, none⟩) (by simp; omega)).trans (World.cell?_alloc_lt _ _ _ hg2)).trans C2.out)
  have P1 := Lib.hid ((Sits.new w2 25 #[.int .i64 1, .int .i64 3]))
  have hlow := hlow0.alloc (by omega) (.cells #[.int .i64 1, .int .i64 3] 25)
  clear hlow0
  have hn1 : n ≤ 4096 := by have := HN.out; omega
  have hn2 : 4096 ≤ n := by have := HN.out; omega
  unfold maxLen at hcm hc2
  go_loopg [9] n (fun gk v9 wx => ∃ j, j ≤ n ∧ gk = n - j ∧ v9 = .int .i64 (j : Nat) ∧ Painted wx (w2.heap.size + 1 + 1) cap3 n j ∧ Below (w2.heap.size + 1 + 1) ((w2.alloc (.cells #[.int .i64 1, .int .i64 3] 25)).alloc (.cells (zeros n) 5)) wx)
  case atStart => exact ⟨0, Nat.zero_le _, rfl, rfl, ⟨cs, by rw [HF.out]; exact heap_made (by simp), HS.out, fun i hi => HZ.out i hi⟩, ((Below.refl _ _).alloc (by simp) _).drew⟩
  case round =>
    obtain ⟨j, hj, rfl, rfl, hp, hbx⟩ := hrel
    clear hm ht hb
    by_cases hlt : j < n
    · have c := hp.cell hlt
      have f := hp.free (i := j) (by omega)
      go_wp2_with fail
      go_roundg (n - (j + 1))
      case measure => omega
      case rel => exact ⟨j + 1, by omega, rfl, by go_num, hp.step hlt hc1, hbx.setCell (Nat.le_refl _) _⟩
    · obtain rfl : j = n := by omega
      have ht := toText wr 32 (w2.heap.size + 1 + 1) cap3 4096 j HN.out (fun i hi => by rw [hp.cell hi, if_pos hi]; rfl)
      have zs := fill_size 32 j
      go_wp2_with fail
      refine (lex_all _ _ (by rw [zs]; omega)).mono ?_
      rintro e w3 ⟨hb3, hr⟩
      rw [show lexAll (fill 32 j).data.toList = _ from known5 j HN.out] at hr
      obtain ⟨v3, rfl, own3⟩ := hr
      obtain ⟨g3, cap5, rfl, _, _, _, _, _⟩ := own_form own3
      clear own3
      have hz3 := hb3.size
      have hbx2 := hbx.size
      simp only [World.size_alloc] at hbx2
      have ht2 := toText (w3.alloc (.cells #[.int .i64 0, .int .i64 0] 25)) 32 (w2.heap.size + 1 + 1) cap3 4096 j HN.out (fun i hi => by
        rw [World.cell?_alloc_lt _ _ _ (Nat.lt_of_lt_of_le hp.lt hz3), hb3.cell hp.lt, hp.cell hi, if_pos hi]; rfl)
      have hadd := run_string_add_sum (P := Try.prog) (w := w3.alloc (.cells #[.int .i64 0, .int .i64 0] 25)) (fill 32 j) ⟨#[32]⟩ (by rw [zs]; show j + 1 ≤ _; omega)
      have HZS := Lib.hid zs; clear zs
      go_wp2_with fail
      refine (lex_all _ _ (by rw [show (fill 32 j ++ ⟨#[32]⟩).size = (fill 32 j).size + 1 from ByteArray.size_append, HZS.out]; omega)).mono ?_
      rintro e w4 ⟨hb4, hr⟩
      rw [show lexAll (fill 32 j ++ ⟨#[32]⟩).data.toList = _ from known6 _ (by
        show (fill 32 j ++ ⟨#[32]⟩).size = 4097
        rw [show (fill 32 j ++ ⟨#[32]⟩).size = (fill 32 j).size + 1 from ByteArray.size_append, HZS.out, ← HN.out])] at hr
      obtain rfl := hr
      have hall : ∀ b i, b < w2.heap.size + 1 → w4.cell? ⟨b, i, none⟩ = (w2.alloc (.cells #[.int .i64 1, .int .i64 3] 25)).cell? ⟨b, i, none⟩ := fun b i hb => by
        rw [hb4.cell (p := ⟨b, i, none⟩) (by simp; omega), World.cell?_alloc_lt _ _ _ (show b < w3.heap.size by omega), hb3.cell (p := ⟨b, i, none⟩) (by simp; omega), hbx.cell (p := ⟨b, i, none⟩) (by show b < _; omega), World.cell?_alloc_lt _ _ _ (by simp; omega)]
      have hz4 := hb4.size
      simp only [World.size_alloc] at hz4
      have q0 := (hall w2.heap.size 0 (by omega)).trans (P1.out.cell 0)
      have q1 := (hall w2.heap.size 1 (by omega)).trans (P1.out.cell 1)
      have q2 := ((hall g 2 (by omega)).trans (World.cell?_alloc_lt _ _ _ hg3)).trans C2'.out
      simp only [List.getElem?_toArray, List.getElem?_cons_zero, List.getElem?_cons_succ] at q0 q1
      have hg4 : g < w4.heap.size := by omega
      have hg5 : w2.heap.size < w4.heap.size := by omega
      have hlow4 : Below w.heap.size w w4 := ((((((hlow.alloc (by simp; omega) (.cells (zeros j) 5)).trans (hbx.mono (by omega))).trans (hb3.mono (by omega))).alloc (by omega) (.cells #[.int .i64 0, .int .i64 0] 25))).trans (hb4.mono (by simp; omega)))
      clear hall ht ht2 hadd
      go_wp2_with fail
      refine (wakes_any _).mono ?_
      rintro e w5 ⟨rfl, hb5⟩
      go_wp2_with fail
      go_ret
      exact ⟨rfl, (hlow4.alloc hlow4.size _).trans (hb5.mono (by have := hlow4.size; simp; omega))⟩
end Go.Proofs.Ytfmopeldhgfpoaa.Lex
