/- Layer 12 (cap): Made, a memory of starting numbers and items. -/
import Derived.Test.YtgkgpehjedmejaaCapY
import Derived.Test.YtgkgpehjedmejaaCapV
namespace Go.Proofs.Ytgkgpehjedmejaa.Cap
open Go.RowKit Go.Proofs.Ytgkgpehjedmejaa.Mem Go.Proofs.Ytgkgpehjedmejaa.Flow Go.Proofs.Ytgkgpehjedmejaa.Mmr

def dmE (m : Dm) (f : Int) : Value → World → Prop := fun u W => ∃ q c, HoldD W q c m ∧ u = .tuple #[dmV q c m, .int .i64 f]
def dmW (m : Dm) : Value → World → Prop := fun u W => ∃ q c, HoldD W q c m ∧ u = dmV q c m
def boxD (B : Nat) : Value → World → Prop := fun u W => ∃ g, Sits W g 30 zeroDm ∧ B ≤ g ∧ u = .pointer (some ⟨g, 0, none⟩)
theorem dmE_mono (m : Dm) (f : Int) : Mono (dmE m f) := fun _ _ _ ⟨p, c, h, e⟩ hb => ⟨p, c, h.below hb, e⟩
theorem dmW_mono (m : Dm) : Mono (dmW m) := fun _ _ _ ⟨p, c, h, e⟩ hb => ⟨p, c, h.below hb, e⟩
theorem boxD_mono (B : Nat) : Mono (boxD B) := fun _ _ _ ⟨g, h, hB, e⟩ hb => ⟨g, h.below hb h.lt, hB, e⟩
theorem dadd_may {m : Dm} {x : It} (h : (dAdd m x).2 = 0) : MayX x := by
  unfold dAdd at h
  by_cases h1 : dMay m x = false
  · rw [if_pos h1] at h; simp at h
  · rw [Bool.not_eq_false] at h1
    simp only [dMay, Bool.and_eq_true] at h1
    exact h1.1.1.1.2
theorem dadd_n (m : Dm) (x : It) : (dAdd m x).1.n = m.n := by
  unfold dAdd; split
  · rfl
  · split
    · rfl
    · split <;> rfl
theorem dadd_no {m : Dm} {x : It} (h : (dAdd m x).2 ≠ 0) : (dAdd m x).1 = m := by
  unfold dAdd at h ⊢; split
  · rfl
  · split
    · rfl
    · split
      · rfl
      · next h1 h2 h3 => rw [if_neg h1, if_neg h2, if_neg h3] at h; simp at h
/-- Two boxes for what is told, two for what is made. -/
structure MdAt (w : World) (g7 g9 : Nat) (p : Nat → Option Addr) (c : Nat → Nat) (m : Mm) (q : Option Addr) (d : Nat) (dm : Dm) (W : World) : Prop where
  at4 : Sits W w.heap.size 28 zeroMm0
  at5 : Sits W (w.heap.size + 1) 30 zeroDm
  at7 : Sits W g7 28 (memCells p c m)
  at9 : Sits W g9 30 (dmCells q d dm)
  hold : Hold W p c m
  holdD : HoldD W q d dm
  low : Below w.heap.size w W
  ge7 : w.heap.size + 1 < g7
  ge9 : w.heap.size + 1 < g9
theorem zero_i64 : ∀ u ∈ zeroMm0.toList, ∀ k z, u = .int k z → k = .i64 := by
  intro u hu k z e
  have hu : u ∈ [Value.slice none 0 0, .slice none 0 0, .slice none 0 0, .slice none 0 0, .int .i64 0] := hu
  simp only [List.mem_cons, List.not_mem_nil, or_false] at hu
  rcases hu with rfl | rfl | rfl | rfl | rfl <;> cases e
  rfl
theorem mem_i64' (p : Nat → Option Addr) (c : Nat → Nat) (m : Mm) : ∀ u ∈ (memCells p c m).toList, ∀ k z, u = .int k z → k = .i64 := by
  intro u hu k z e
  simp only [List.mem_cons, List.not_mem_nil, or_false] at hu
  rcases hu with rfl | rfl | rfl | rfl | rfl <;> cases e
  rfl
theorem dm_nocpx (q : Option Addr) (d : Nat) (dm : Dm) : ∀ u ∈ (dmCells q d dm).toList, ∀ k x y, u ≠ .complex k x y := by
  intro u hu k x y e
  have hu : u ∈ [Value.int .i64 (dm.n : Nat), .slice q dm.l.length d] := hu
  simp only [List.mem_cons, List.not_mem_nil, or_false] at hu
  rcases hu with rfl | rfl <;> cases e
theorem zeroDm_nocpx : ∀ u ∈ zeroDm.toList, ∀ k x y, u ≠ .complex k x y := by
  intro u hu k x y e
  have hu : u ∈ [Value.int .i64 0, .slice none 0 0] := hu
  simp only [List.mem_cons, List.not_mem_nil, or_false] at hu
  rcases hu with rfl | rfl <;> cases e
section
variable {w W W' : World} {g7 g9 : Nat} {p p2 : Nat → Option Addr} {c c2 : Nat → Nat} {m m2 : Mm} {q q2 : Option Addr} {d d2 : Nat} {dm dm2 : Dm}
theorem MdAt.grown (h : MdAt w g7 g9 p c m q d dm W) (hb : Below W.heap.size W W') : MdAt w g7 g9 p c m q d dm W' :=
  ⟨h.at4.below hb h.at4.lt, h.at5.below hb h.at5.lt, h.at7.below hb h.at7.lt, h.at9.below hb h.at9.lt, h.hold.below hb, h.holdD.below hb, h.low.trans (hb.mono h.low.size), h.ge7, h.ge9⟩
theorem MdAt.put7 (h : MdAt w g7 g9 p c m q d dm W) (hh : Hold W p2 c2 m2) : MdAt w g7 g9 p2 c2 m2 q d dm (W.setRow g7 (memCells p2 c2 m2)) :=
  ⟨(setRow_other W _ _ _ (by have := h.ge7; omega)).trans h.at4, (setRow_other W _ _ _ (by have := h.ge7; omega)).trans h.at5, setRow_heap W _ _ _ _ _ h.at7, (setRow_other W _ _ _ (h.at9.differ h.at7 (by decide))).trans h.at9, hold_over hh h.at7 (mem_plain _ _ _) _, holdD_over h.holdD h.at7 (mem_i64' _ _ _) _, row_low h.low (by have := h.ge7; omega) _, h.ge7, h.ge9⟩
theorem MdAt.put9 (h : MdAt w g7 g9 p c m q d dm W) (hh : HoldD W q2 d2 dm2) : MdAt w g7 g9 p c m q2 d2 dm2 (W.setRow g9 (dmCells q2 d2 dm2)) :=
  ⟨(setRow_other W _ _ _ (by have := h.ge9; omega)).trans h.at4, (setRow_other W _ _ _ (by have := h.ge9; omega)).trans h.at5, (setRow_other W _ _ _ (h.at7.differ h.at9 (by decide))).trans h.at7, setRow_heap W _ _ _ _ _ h.at9, hold_over h.hold h.at9 (dm_nocpx _ _ _) _, holdD_over hh h.at9 (dm_plain _ _ _) _, row_low h.low (by have := h.ge9; omega) _, h.ge7, h.ge9⟩
theorem MdAt.box (h : MdAt w g7 g9 p c m q d dm W) {g : Nat} (hs : Sits W g 30 zeroDm) (hg : w.heap.size + 1 < g) (hn : g ≠ g9) (cs : Array Value) : MdAt w g7 g9 p c m q d dm (W.setRow g cs) :=
  ⟨(setRow_other W _ _ _ (by omega)).trans h.at4, (setRow_other W _ _ _ (by omega)).trans h.at5, (setRow_other W _ _ _ (h.at7.differ hs (by decide))).trans h.at7, (setRow_other W _ _ _ (Ne.symm hn)).trans h.at9, hold_over h.hold hs zeroDm_nocpx _, holdD_over h.holdD hs zeroDm_plain _, row_low h.low (by omega) _, h.ge7, h.ge9⟩
end
abbrev chain2 (W : World) (g : Nat) (q : Option Addr) (d : Nat) (dm : Dm) : World := (W.setCell ⟨g, 0, none⟩ (.int .i64 (dm.n : Nat))).setCell ⟨g, 1, none⟩ (.slice q dm.l.length d)
theorem chain2_eq {W : World} {g : Nat} {z : Array Value} (h : Sits W g 30 z) (hz : z.size = 2) (q : Option Addr) (d : Nat) (dm : Dm) : chain2 W g q d dm = W.setRow g (dmCells q d dm) := by
  have h1 := (h.put 0 (.int .i64 (dm.n : Nat))).put 1 (.slice q dm.l.length d)
  have e1 : (z.setIfInBounds 0 (.int .i64 (dm.n : Nat))).setIfInBounds 1 (.slice q dm.l.length d) = dmCells q d dm := by
    apply Array.ext
    · simp [hz]
    · intro i _ h2
      have h2 : i < 2 := h2
      obtain rfl | rfl : i = 0 ∨ i = 1 := by omega
      · simp [hz]
      · simp
  rw [e1] at h1
  have e : (chain2 W g q d dm).heap = (W.setRow g (dmCells q d dm)).heap := by
    apply Array.ext_getElem?
    intro i
    by_cases hi : i = g
    · subst hi
      exact h1.trans (setRow_heap W _ _ _ _ _ h).symm
    · rw [setRow_other W _ _ _ hi]
      unfold chain2
      rw [Below.heap_setCell _ _ _ _ hi, Below.heap_setCell _ _ _ _ hi]
  unfold chain2 at e ⊢
  unfold World.setRow at e ⊢
  unfold World.setCell at e ⊢
  simp only at e ⊢
  rw [e]
/-- What is told is written box by box. -/
structure MeAt (w : World) (g7 g9 : Nat) (p : Nat → Option Addr) (c : Nat → Nat) (m : Mm) (q : Option Addr) (d : Nat) (dm : Dm) (z4 z5 : Array Value) (W : World) : Prop where
  at4 : Sits W w.heap.size 28 z4
  at5 : Sits W (w.heap.size + 1) 30 z5
  at7 : Sits W g7 28 (memCells p c m)
  at9 : Sits W g9 30 (dmCells q d dm)
  hold : Hold W p c m
  holdD : HoldD W q d dm
  low : Below w.heap.size w W
  ge7 : w.heap.size + 1 < g7
  ge9 : w.heap.size + 1 < g9
theorem MdAt.me {w W : World} {g7 g9 : Nat} {p : Nat → Option Addr} {c : Nat → Nat} {m : Mm} {q : Option Addr} {d : Nat} {dm : Dm} (h : MdAt w g7 g9 p c m q d dm W) : MeAt w g7 g9 p c m q d dm zeroMm0 zeroDm W :=
  ⟨h.at4, h.at5, h.at7, h.at9, h.hold, h.holdD, h.low, h.ge7, h.ge9⟩
theorem MeAt.put4 {w W : World} {g7 g9 : Nat} {p : Nat → Option Addr} {c : Nat → Nat} {m : Mm} {q : Option Addr} {d : Nat} {dm : Dm} {z5 : Array Value} (h : MeAt w g7 g9 p c m q d dm zeroMm0 z5 W) : MeAt w g7 g9 p c m q d dm (memCells p c m) z5 (W.setRow w.heap.size (memCells p c m)) :=
  ⟨setRow_heap W _ _ _ _ _ h.at4, (setRow_other W _ _ _ (by omega)).trans h.at5, (setRow_other W _ _ _ (by have := h.ge7; omega)).trans h.at7, (setRow_other W _ _ _ (by have := h.ge9; omega)).trans h.at9, hold_over h.hold h.at4 zero_plain _, holdD_over h.holdD h.at4 zero_i64 _, row_low h.low (by omega) _, h.ge7, h.ge9⟩
theorem MeAt.put5 {w W : World} {g7 g9 : Nat} {p : Nat → Option Addr} {c : Nat → Nat} {m : Mm} {q : Option Addr} {d : Nat} {dm : Dm} {z4 : Array Value} (h : MeAt w g7 g9 p c m q d dm z4 zeroDm W) : MeAt w g7 g9 p c m q d dm z4 (dmCells q d dm) (W.setRow (w.heap.size + 1) (dmCells q d dm)) :=
  ⟨(setRow_other W _ _ _ (by omega)).trans h.at4, setRow_heap W _ _ _ _ _ h.at5, (setRow_other W _ _ _ (by have := h.ge7; omega)).trans h.at7, (setRow_other W _ _ _ (by have := h.ge9; omega)).trans h.at9, hold_over h.hold h.at5 zeroDm_nocpx _, holdD_over h.holdD h.at5 zeroDm_plain _, row_low h.low (by omega) _, h.ge7, h.ge9⟩
def GivesMd (n : Nat) (w : World) (e : Ending) (w' : World) : Prop := ∃ p c m q d dm, e = .returned (.tuple #[memV p c m, dmV q d dm, .bool true]) ∧ Hold w' p c m ∧ HoldD w' q d dm ∧ Rep m dm ∧ m.n = n ∧ Below w.heap.size w w'
set_option maxRecDepth 100000 in
set_option maxHeartbeats 8000000 in
theorem made_any (start : List Int) (l : List It) (ps pl : Option Addr) (cs cl : Nat) (w : World) (hN : Nums w ps start) (hL : Rts w pl l) (h1 : 1 ≤ start.length) (h4 : start.length ≤ 4) (hl : l.length ≤ 150) :
    Calls Try.prog 5 #[.slice ps start.length cs, .slice pl l.length cl] w (GivesMd start.length w) := by
  have H0 : Hid (Sits ((w.alloc (.cells zeroMm0 28)).alloc (.cells zeroDm 30)) w.heap.size 28 zeroMm0 ∧ Sits ((w.alloc (.cells zeroMm0 28)).alloc (.cells zeroDm 30)) (w.heap.size + 1) 30 zeroDm ∧ Below w.heap.size w ((w.alloc (.cells zeroMm0 28)).alloc (.cells zeroDm 30)) ∧ ((w.alloc (.cells zeroMm0 28)).alloc (.cells zeroDm 30)).heap.size = w.heap.size + 2) := Lib.hid
    ⟨(Sits.new _ _ _).alloc _, Sits.made (by simp) _ _, two_low _ _ _, by simp⟩
  have HN := Lib.hid (hN.below H0.out.2.2.1)
  have HL := Lib.hid hL
  have HS := Lib.hid (show 1 ≤ start.length ∧ start.length ≤ 4 ∧ l.length ≤ 150 from ⟨h1, h4, hl⟩)
  have HBE : Hid (beginE start = (beginL start, 0)) := Lib.hid (by unfold beginE; rw [if_neg (by omega)])
  have HBD : Hid (dBeginE start = (dBegin start, 0)) := Lib.hid (by unfold dBeginE; rw [if_neg (by omega)])
  have HR0 := Lib.hid (rep_begin (l := start) h1 h4)
  have HBN : Hid ((beginL start).n = start.length) := Lib.hid rfl
  have i1 : (l.length : Int) ≤ 150 := by omega
  clear hN hL h1 h4 hl
  go_enter Try.func5, Try.ntmps5
  go_upto_region 1 with (fail)
  generalize (w.alloc (.cells zeroMm0 28)).alloc (.cells zeroDm 30) = w0 at H0 HN ⊢
  have HC := Lib.hid (begin_any ps cs start (by have := HS.out; omega) w0 HN.out)
  have HCD := Lib.hid (fun W (h : Nums W ps start) => dbegin_any ps cs start (by have := HS.out; omega) W h)
  rw [HBE.out] at HC
  rw [HBD.out] at HCD
  go_wp2_with fail
  refine HC.out.mono ?_
  rintro e w1 ⟨p0, c0, rfl, hh, hb⟩
  dsimp only at hh ⊢
  have S7 := Lib.hid (Sits.new w1 28 (memCells p0 c0 (beginL start)))
  have HH := Lib.hid (hh.below (one_low w1 (.cells (memCells p0 c0 (beginL start)) 28)))
  have HB := Lib.hid (hb.trans ((one_low w1 (.cells (memCells p0 c0 (beginL start)) 28)).mono hb.size))
  have G7 := Lib.hid hb.size
  clear hb hh HC
  go_upto_region 2 with (fail)
  generalize w1.alloc (.cells (memCells p0 c0 (beginL start)) 28) = w2 at S7 HH HB ⊢
  generalize w1.heap.size = g7 at S7 G7 ⊢
  go_wp2_with fail
  refine (HCD.out _ (HN.out.below HB.out)).mono ?_
  rintro e w3 ⟨q0, d0, rfl, hh, hb⟩
  dsimp only at hh ⊢
  have HM : Hid (MdAt w g7 w3.heap.size p0 c0 (beginL start) q0 d0 (dBegin start) (w3.alloc (.cells (dmCells q0 d0 (dBegin start)) 30))) := Lib.hid (by
    have HB2 : Below w2.heap.size w2 (w3.alloc (.cells (dmCells q0 d0 (dBegin start)) 30)) := hb.trans ((one_low w3 (.cells (dmCells q0 d0 (dBegin start)) 30)).mono hb.size)
    have HB3 := HB.out.trans (HB2.mono HB.out.size)
    have hz := H0.out.2.2.2
    have h7 := G7.out
    have h8 := hb.size
    have h9 := HB.out.size
    exact ⟨H0.out.1.below HB3 H0.out.1.lt, H0.out.2.1.below HB3 H0.out.2.1.lt, S7.out.below HB2 S7.out.lt, Sits.new _ _ _, HH.out.below HB2, hh.below (one_low _ _), H0.out.2.2.1.trans (HB3.mono H0.out.2.2.1.size), by omega, by omega⟩)
  clear hb hh HCD S7 HH HB G7
  go_upto_region 3 with (fail)
  generalize w3.alloc (.cells (dmCells q0 d0 (dBegin start)) 30) = w4 at HM ⊢
  generalize w3.heap.size = g9 at HM ⊢
  generalize beginL start = m0 at HM HR0 HBN
  generalize dBegin start = n0 at HM HR0
  go_wp2_with fail
  refine wp_loop_ghost_k (fun n A W => ∃ (i : Nat) (p : Nat → Option Addr) (c : Nat → Nat) (m : Mm) (q : Option Addr) (d : Nat) (dm : Dm), i ≤ l.length ∧ n = l.length - i ∧ Fr 66 [(0, .slice ps start.length cs), (1, .slice pl l.length cl), (4, .pointer (some ⟨w.heap.size, 0, none⟩)), (5, .pointer (some ⟨w.heap.size + 1, 0, none⟩)), (7, .pointer (some ⟨g7, 0, none⟩)), (9, .pointer (some ⟨g9, 0, none⟩)), (11, .int .i64 (i : Nat))] A ∧ MdAt w g7 g9 p c m q d dm W ∧ Rep m dm ∧ m.n = start.length) l.length ?_ ?_
  · exact ⟨0, p0, c0, m0, q0, d0, n0, by omega, by omega, ⟨rfl, rfl, by simp only [List.mem_cons, List.not_mem_nil, or_false, forall_eq_or_imp, forall_eq]; exact ⟨rfl, rfl, rfl, rfl, rfl, rfl, rfl⟩⟩, HM.out, HR0.out, HBN.out⟩
  · rintro n ⟨T, D⟩ wr ⟨i, p, c, m, q, d, dm, hi, rfl, hF, hW, hR, hn⟩ J K hJ hK
    obtain ⟨hsz, hdf, hat⟩ := hF
    simp only [List.mem_cons, List.not_mem_nil, or_false, forall_eq_or_imp, forall_eq] at hsz hdf hat
    obtain ⟨q0, q1, q2, q3, q4, q5, q6⟩ := hat
    subst hdf
    have hsp := spread T 66 hsz
    simp only [List.range, List.range.loop, List.map_cons, List.map_nil, q0, q1, q2, q3, q4, q5, q6] at hsp
    rw [hsp]
    clear hsp hsz q0 q1 q2 q3 q4 q5 q6
    have HW := Lib.hid hW
    have HR := Lib.hid hR
    have HMN := Lib.hid hn
    clear hW hR hn HM HR0 HBN
    by_cases hlt : i < l.length
    · have hx : l[i]? = some l[i] := List.getElem?_eq_getElem hlt
      have HX := Lib.hid hx
      obtain ⟨g, o, hpl, lg, hc⟩ := (HL.out.below HW.out.low).there hx
      generalize l[i] = x at hx hc HX
      have j1 : (i : Int) < (l.length : Int) := by omega
      have j0 : (0 : Int) ≤ (i : Int) := by omega
      have HLT := Lib.hid hlt
      clear hx hlt hi lg hc
      subst hpl
      have HCX : Hid (∀ W, Below w.heap.size w W → RtAt W g (o + i * 14) x) := Lib.hid fun W hb => by
        obtain ⟨g', o', e', _, hc⟩ := (HL.out.below hb).there HX.out
        injection e' with e'; injection e' with e1 e2; subst e1 e2
        exact hc
      obtain ⟨f3, e3, hm3⟩ : ∃ f3 e3, dAdd dm x = (f3, e3) := ⟨_, _, rfl⟩
      have HRA := Lib.hid (rep_add HR.out x)
      have HC := Lib.hid (fun W hh => dadd_any q d dm (by have := HR.out.len; omega) (rep_may HR.out) x W hh)
      have HMAY : Hid (e3 = 0 → MayX x) := Lib.hid fun h => dadd_may (m := dm) (by rw [hm3]; exact h)
      have HDN : Hid (e3 ≠ 0 → f3 = dm) := Lib.hid fun h => by have := dadd_no (m := dm) (x := x) (by rw [hm3]; exact h); rw [hm3] at this; exact this
      have HF3N : Hid (f3.n = dm.n) := Lib.hid (by have := dadd_n dm x; rw [hm3] at this; exact this)
      rw [hm3] at HC HRA
      clear hm3
      obtain ⟨a0, a1, a2, a3, a4, a5, a6, a7, a8, a9, a10, a11, a12, a13⟩ := HCX.out wr HW.out.low
      go_upto_region 8 with (fail)
      refine wp_cut (fun A W => ∃ g12 q3 d3, Fr 66 [(0, .slice ps start.length cs), (1, .slice (some ⟨g, o, none⟩) l.length cl), (4, .pointer (some ⟨w.heap.size, 0, none⟩)), (5, .pointer (some ⟨w.heap.size + 1, 0, none⟩)), (7, .pointer (some ⟨g7, 0, none⟩)), (9, .pointer (some ⟨g9, 0, none⟩)), (11, .int .i64 (i : Nat)), (12, .pointer (some ⟨g12, 0, none⟩)), (13, .int .i64 e3)] A ∧ MdAt w g7 g9 p c m q d dm W ∧ Sits W g12 30 (dmCells q3 d3 f3) ∧ HoldD W q3 d3 f3) ?rest ?first
      case first =>
        intro J K hJ hK
        have lg : g < wr.heap.size := World.block_lt_of_cell? _ _ a0
        have b0 : wr.cell? ⟨g9, 0, none⟩ = some (.int .i64 (dm.n : Nat)) := HW.out.at9.cell 0
        have b1 : wr.cell? ⟨g9, 1, none⟩ = some (.slice q dm.l.length d) := HW.out.at9.cell 1
        have l9 := HW.out.at9.lt
        go_region_with (first
          | (go_at_call 14; refine (HC.out _ (HW.out.holdD.below (Below.drew (Below.refl _ wr)))).mono ?_; rintro e wa ⟨q3, d3, rfl, hha, hba⟩; have HWa := Lib.hid (HW.out.grown (Below.trans (Below.drew (Below.refl _ wr)) hba)); have HHa := Lib.hid hha; have HSZ : Hid (wr.heap.size ≤ wa.heap.size) := Lib.hid hba.size; clear hba hha)
          | (go_at_call 14; refine (HC.out _ (HW.out.holdD.below (Below.drew (one_low wr (.cells zeroDm 30))))).mono ?_; rintro e wa ⟨q3, d3, rfl, hha, hba⟩; have HWa := Lib.hid (HW.out.grown (Below.trans (Below.drew (one_low wr (.cells zeroDm 30))) (hba.mono (by simp)))); have HHa := Lib.hid hha; have HSa := Lib.hid ((Sits.new wr 30 zeroDm).drew.below hba (by simp)); clear hba hha; have la := HSa.out.lt; have z0 := HSa.out.cell 0; have f0 := HSa.out.free 0; have z1 := HSa.out.cell 1; have f1 := HSa.out.free 1))
        all_goals
          refine hK _ _ ?_
          refine Met.intro ?_
          refine hJ _ _ ?_
          refine ⟨_, q3, d3, ⟨rfl, rfl, by simp only [List.mem_cons, List.not_mem_nil, or_false, forall_eq_or_imp, forall_eq]; exact ⟨rfl, rfl, rfl, rfl, rfl, rfl, rfl, rfl, rfl⟩⟩, ?_⟩
          first
            | exact ⟨HWa.out.grown (one_low _ _), Sits.new _ _ _, HHa.out.below (one_low _ _)⟩
            | exact (congrArg (fun W => MdAt w g7 g9 p c m q d dm W ∧ Sits W wr.heap.size 30 (dmCells q3 d3 f3) ∧ HoldD W q3 d3 f3) (chain2_eq HSa.out rfl q3 d3 f3)).mpr ⟨HWa.out.box HSa.out (by have := HW.out.ge9; have := HW.out.at9.lt; omega) (by have := HW.out.at9.lt; omega) _, setRow_heap _ _ _ _ _ _ HSa.out, holdD_over HHa.out HSa.out zeroDm_plain _⟩
      case rest =>
        rintro ⟨T, D⟩ W3 ⟨g12, q45, c45, hF, hW3, hS12, hH4⟩
        obtain ⟨hsz, hdf, hat⟩ := hF
        simp only [List.mem_cons, List.not_mem_nil, or_false, forall_eq_or_imp, forall_eq] at hsz hdf hat
        obtain ⟨q0, q1, q2, q3, q4, q5, q6, q7, q8⟩ := hat
        subst hdf
        have hsp := spread T 66 hsz
        simp only [List.range, List.range.loop, List.map_cons, List.map_nil, q0, q1, q2, q3, q4, q5, q6, q7, q8] at hsp
        rw [hsp]
        clear hsp hsz q0 q1 q2 q3 q4 q5 q6 q7 q8
        have HW3 := Lib.hid hW3
        have S12 := Lib.hid hS12
        have HH4 := Lib.hid hH4
        clear hW3 hS12 hH4 HW HC a0 a1 a2 a3 a4 a5 a6 a7 a8 a9 a10 a11 a12 a13
        by_cases he : e3 = 0
        rotate_left
        · have he' : (e3 == 0) = false := by simpa using he
          clear he
          go_wp2_with fail
          refine Handed.intro (l.length - (i + 1)) (by have := HLT.out; omega) ?_
          refine hJ _ _ _ ?_
          exact ⟨i + 1, p, c, m, q, d, dm, by have := HLT.out; omega, rfl, ⟨rfl, rfl, by simp only [List.mem_cons, List.not_mem_nil, or_false, forall_eq_or_imp, forall_eq]; exact ⟨rfl, rfl, rfl, rfl, rfl, rfl, rfl⟩⟩, HW3.out, HR.out, HMN.out⟩
        · subst he
          have HMX := Lib.hid (HMAY.out rfl)
          obtain ⟨m3, e4, hm4⟩ : ∃ m3 e4, addF m x = (m3, e4) := ⟨_, _, rfl⟩
          have HCA := Lib.hid (fun W hh => add_any p c m HR.out.ok x (fit_may HMX.out) W hh)
          rw [hm4] at HRA HCA
          have HN3 : Hid (m3.n = start.length) := Lib.hid (by have h := HRA.out.2.n; have h2 := HF3N.out; have h3 := HR.out.n; have h4 := HMN.out; show m3.n = _; have h5 : f3.n = m3.n := h; omega)
          obtain rfl : e4 = 0 := HRA.out.1
          clear hm4
          obtain ⟨a0, a1, a2, a3, a4, a5, a6, a7, a8, a9, a10, a11, a12, a13⟩ := HCX.out W3 HW3.out.low
          go_upto_region 10 with (fail)
          refine wp_cut (fun A W => ∃ p2 c2, Fr 66 [(0, .slice ps start.length cs), (1, .slice (some ⟨g, o, none⟩) l.length cl), (4, .pointer (some ⟨w.heap.size, 0, none⟩)), (5, .pointer (some ⟨w.heap.size + 1, 0, none⟩)), (7, .pointer (some ⟨g7, 0, none⟩)), (9, .pointer (some ⟨g9, 0, none⟩)), (11, .int .i64 (i : Nat)), (12, .pointer (some ⟨g12, 0, none⟩)), (8, .int .i64 0)] A ∧ MdAt w g7 g9 p2 c2 m3 q d dm W ∧ Sits W g12 30 (dmCells q45 c45 f3) ∧ HoldD W q45 c45 f3) ?rest2 ?first2
          case first2 =>
            intro J K hJ hK
            have lg : g < W3.heap.size := World.block_lt_of_cell? _ _ a0
            have lb := (HW3.out.at7).lt
            have b0 : W3.cell? ⟨g7, 0, none⟩ = some (.slice (p 0) (m.row 0).length (c 0)) := (HW3.out.at7).cell 0
            have b1 : W3.cell? ⟨g7, 1, none⟩ = some (.slice (p 1) (m.row 1).length (c 1)) := (HW3.out.at7).cell 1
            have b2 : W3.cell? ⟨g7, 2, none⟩ = some (.slice (p 2) (m.row 2).length (c 2)) := (HW3.out.at7).cell 2
            have b3 : W3.cell? ⟨g7, 3, none⟩ = some (.slice (p 3) (m.row 3).length (c 3)) := (HW3.out.at7).cell 3
            have b4 : W3.cell? ⟨g7, 4, none⟩ = some (.int .i64 (m.n : Nat)) := (HW3.out.at7).cell 4
            go_region_with (first
              | (go_at_call 15; refine (itm_any HMX.out _).mono ?_; rintro e wa ⟨rfl, hba⟩; have HBa : Hid (Below W3.heap.size W3 wa) := Lib.hid (Below.trans (Below.drew (Below.refl _ W3)) hba); have HWa := Lib.hid (HW3.out.grown HBa.out); clear hba; have lb := (HWa.out.at7).lt; have b0 : wa.cell? ⟨g7, 0, none⟩ = some (.slice (p 0) (m.row 0).length (c 0)) := (HWa.out.at7).cell 0; have b1 : wa.cell? ⟨g7, 1, none⟩ = some (.slice (p 1) (m.row 1).length (c 1)) := (HWa.out.at7).cell 1; have b2 : wa.cell? ⟨g7, 2, none⟩ = some (.slice (p 2) (m.row 2).length (c 2)) := (HWa.out.at7).cell 2; have b3 : wa.cell? ⟨g7, 3, none⟩ = some (.slice (p 3) (m.row 3).length (c 3)) := (HWa.out.at7).cell 3; have b4 : wa.cell? ⟨g7, 4, none⟩ = some (.int .i64 (m.n : Nat)) := (HWa.out.at7).cell 4)
              | (go_at_call 12; refine (HCA.out _ ?_).mono ?_; exact HWa.out.hold; rintro e wb ⟨p2, c2, rfl, hhb, hbb⟩; have HBb := Lib.hid (HBa.out.trans (hbb.mono HBa.out.size)); have HWb := Lib.hid (HWa.out.grown hbb); have HHb := Lib.hid hhb; clear hbb hhb; have le := (HWb.out.at7).lt; have e0 : wb.cell? ⟨g7, 0, none⟩ = some (.slice (p 0) (m.row 0).length (c 0)) := (HWb.out.at7).cell 0; have e1 : wb.cell? ⟨g7, 1, none⟩ = some (.slice (p 1) (m.row 1).length (c 1)) := (HWb.out.at7).cell 1; have e2 : wb.cell? ⟨g7, 2, none⟩ = some (.slice (p 2) (m.row 2).length (c 2)) := (HWb.out.at7).cell 2; have e3 : wb.cell? ⟨g7, 3, none⟩ = some (.slice (p 3) (m.row 3).length (c 3)) := (HWb.out.at7).cell 3; have e4 : wb.cell? ⟨g7, 4, none⟩ = some (.int .i64 (m.n : Nat)) := (HWb.out.at7).cell 4; have fz0 := HWb.out.at7.free 0; have fz1 := HWb.out.at7.free 1; have fz2 := HWb.out.at7.free 2; have fz3 := HWb.out.at7.free 3; have fz4 := HWb.out.at7.free 4))
            all_goals
              refine hK _ _ ?_
              refine Met.intro ?_
              refine hJ _ _ ?_
              refine ⟨p2, c2, ⟨rfl, rfl, by simp only [List.mem_cons, List.not_mem_nil, or_false, forall_eq_or_imp, forall_eq]; exact ⟨rfl, rfl, rfl, rfl, rfl, rfl, rfl, rfl, rfl⟩⟩, ?_⟩
              have S12b := S12.out.below HBb.out S12.out.lt
              exact (congrArg (fun W => MdAt w g7 g9 p2 c2 m3 q d dm W ∧ Sits W g12 30 (dmCells q45 c45 f3) ∧ HoldD W q45 c45 f3) (chain_eq HWb.out.at7)).mpr ⟨HWb.out.put7 HHb.out, (setRow_other _ _ _ _ (S12b.differ HWb.out.at7 (by decide))).trans S12b, holdD_over (HH4.out.below HBb.out) HWb.out.at7 (mem_i64' _ _ _) _⟩
          case rest2 =>
            rintro ⟨T, D⟩ W5 ⟨p57, c57, hF, hW5, hS12, hH5⟩
            obtain ⟨hsz, hdf, hat⟩ := hF
            simp only [List.mem_cons, List.not_mem_nil, or_false, forall_eq_or_imp, forall_eq] at hsz hdf hat
            obtain ⟨q0, q1, q2, q3, q4, q5, q6, q7, q8⟩ := hat
            subst hdf
            have hsp := spread T 66 hsz
            simp only [List.range, List.range.loop, List.map_cons, List.map_nil, q0, q1, q2, q3, q4, q5, q6, q7, q8] at hsp
            rw [hsp]
            clear hsp hsz q0 q1 q2 q3 q4 q5 q6 q7 q8
            have HW5 := Lib.hid hW5
            have S12c := Lib.hid hS12
            have HHc := Lib.hid hH5
            clear hW5 hS12 hH5 HW3 S12 HH4 HCA a0 a1 a2 a3 a4 a5 a6 a7 a8 a9 a10 a11 a12 a13
            have b0 : W5.cell? ⟨g12, 0, none⟩ = some (.int .i64 (f3.n : Nat)) := (cell_of_row W5 _ 0 _ _ _ S12c.out).trans rfl
            have b1 : W5.cell? ⟨g12, 1, none⟩ = some (.slice q45 f3.l.length c45) := (cell_of_row W5 _ 1 _ _ _ S12c.out).trans rfl
            have l12 := S12c.out.lt
            go_wp2_with (refine wpList_store_row rfl 30 _ _ rfl g9 (dmCells q45 c45 f3) rfl rfl 30 _ HW5.out.at9 dmSize rfl (dm_one _ _ _) ?_)
            refine Handed.intro (l.length - (i + 1)) (by have := HLT.out; omega) ?_
            refine hJ _ _ _ ?_
            exact ⟨i + 1, p57, c57, m3, q45, c45, f3, by have := HLT.out; omega, rfl, ⟨rfl, rfl, by simp only [List.mem_cons, List.not_mem_nil, or_false, forall_eq_or_imp, forall_eq]; exact ⟨rfl, rfl, rfl, rfl, rfl, rfl, rfl⟩⟩, HW5.out.put9 HHc.out, HRA.out.2, HN3.out⟩
    · obtain rfl : i = l.length := by omega
      have j1 : ¬ ((l.length : Int) < (l.length : Int)) := by omega
      clear hlt hi
      go_upto_region 14 with (fail)
      refine wp_cut (fun A W => Fr 66 [(0, .slice ps start.length cs), (1, .slice pl l.length cl), (4, .pointer (some ⟨w.heap.size, 0, none⟩)), (5, .pointer (some ⟨w.heap.size + 1, 0, none⟩)), (7, .pointer (some ⟨g7, 0, none⟩)), (9, .pointer (some ⟨g9, 0, none⟩)), (6, .bool true)] A ∧ Sits W w.heap.size 28 (memCells p c m) ∧ Sits W (w.heap.size + 1) 30 (dmCells q d dm) ∧ Hold W p c m ∧ HoldD W q d dm ∧ Below w.heap.size w W) ?rest4 ?first4
      case first4 =>
        intro J K0 hJ hK0
        have HD := Lib.hid (HW.out.grown (Below.drew (Below.refl _ wr))).me
        refine wp_region_any (by kernel_rfl) ?_
        change wpAny _ _ _ _ _ _ _ (World.drew _)
        generalize wr.drew = Wd at HD ⊢
        have lb := (HD.out.at7).lt
        have b0 : Wd.cell? ⟨g7, 0, none⟩ = some (.slice (p 0) (m.row 0).length (c 0)) := (HD.out.at7).cell 0
        have b1 : Wd.cell? ⟨g7, 1, none⟩ = some (.slice (p 1) (m.row 1).length (c 1)) := (HD.out.at7).cell 1
        have b2 : Wd.cell? ⟨g7, 2, none⟩ = some (.slice (p 2) (m.row 2).length (c 2)) := (HD.out.at7).cell 2
        have b3 : Wd.cell? ⟨g7, 3, none⟩ = some (.slice (p 3) (m.row 3).length (c 3)) := (HD.out.at7).cell 3
        have b4 : Wd.cell? ⟨g7, 4, none⟩ = some (.int .i64 (m.n : Nat)) := (HD.out.at7).cell 4
        have ld := (HD.out.at9).lt
        have d0 : Wd.cell? ⟨g9, 0, none⟩ = some (.int .i64 (dm.n : Nat)) := (HD.out.at9).cell 0
        have d1 : Wd.cell? ⟨g9, 1, none⟩ = some (.slice q dm.l.length d) := (HD.out.at9).cell 1
        refine wpAny_ready (rs := [0, 1]) (by kernel_rfl) (by simp) ?_
        refine AllReady.cons rfl (fun K hK => ?_) (AllReady.cons rfl (fun K hK => ?_) AllReady.nil)
        · go_simp
          refine hK _ _ ?_
          clear hK K
          refine wpAny_ready (rs := [1, 2]) (by kernel_rfl) (by simp) ?_
          refine AllReady.cons rfl (fun K hK => ?_) (AllReady.cons rfl (fun K hK => ?_) AllReady.nil)
          · go_simp
            refine hK _ _ ?_
            clear hK K
            refine wpAny_ready (rs := [2]) (by kernel_rfl) (by simp) ?_
            refine AllReady.cons rfl (fun K hK => ?_) AllReady.nil
            refine wp_store_row 28 _ _ rfl w.heap.size (memCells p c m) rfl rfl 28 _ HD.out.at4 memSize rfl (mem_one _ _ _) ?_
            have HE := Lib.hid (HD.out.put4)
            refine hK _ _ ?_
            clear hK K
            generalize Wd.setRow w.heap.size (memCells p c m) = We at HE ⊢
            refine wpAny_ready (rs := [3]) (by kernel_rfl) (by simp) ?_
            refine AllReady.cons rfl (fun K hK => ?_) AllReady.nil
            refine wp_store_row 30 _ _ rfl (w.heap.size + 1) (dmCells q d dm) rfl rfl 30 _ HE.out.at5 dmSize rfl (dm_one _ _ _) ?_
            have HZ := Lib.hid (HE.out.put5)
            refine hK _ _ ?_
            clear hK K
            generalize We.setRow (w.heap.size + 1) (dmCells q d dm) = WZ at HZ ⊢
            refine wpAny_ready (rs := [4]) (by kernel_rfl) (by simp) ?_
            refine AllReady.cons rfl (fun K hK => ?_) AllReady.nil
            go_simp
            refine hK _ _ ?_
            clear hK K
            refine wpAny_done (by kernel_rfl) ?_ _
            go_simp
            refine hK0 _ _ ?_
            refine Met.intro ?_
            refine hJ _ _ ?_
            exact ⟨⟨rfl, rfl, by simp only [List.mem_cons, List.not_mem_nil, or_false, forall_eq_or_imp, forall_eq]; exact ⟨rfl, rfl, rfl, rfl, rfl, rfl, rfl⟩⟩, HZ.out.at4, HZ.out.at5, HZ.out.hold, HZ.out.holdD, HZ.out.low⟩
          · refine wp_store_row 28 _ _ rfl w.heap.size (memCells p c m) rfl rfl 28 _ HD.out.at4 memSize rfl (mem_one _ _ _) ?_
            have HE := Lib.hid (HD.out.put4)
            refine hK _ _ ?_
            clear hK K
            generalize Wd.setRow w.heap.size (memCells p c m) = We at HE ⊢
            clear ld d0 d1
            have ld := (HE.out.at9).lt
            have d0 : We.cell? ⟨g9, 0, none⟩ = some (.int .i64 (dm.n : Nat)) := (HE.out.at9).cell 0
            have d1 : We.cell? ⟨g9, 1, none⟩ = some (.slice q dm.l.length d) := (HE.out.at9).cell 1
            refine wpAny_ready (rs := [1]) (by kernel_rfl) (by simp) ?_
            refine AllReady.cons rfl (fun K hK => ?_) AllReady.nil
            go_simp
            refine hK _ _ ?_
            clear hK K
            refine wpAny_ready (rs := [3]) (by kernel_rfl) (by simp) ?_
            refine AllReady.cons rfl (fun K hK => ?_) AllReady.nil
            refine wp_store_row 30 _ _ rfl (w.heap.size + 1) (dmCells q d dm) rfl rfl 30 _ HE.out.at5 dmSize rfl (dm_one _ _ _) ?_
            have HZ := Lib.hid (HE.out.put5)
            refine hK _ _ ?_
            clear hK K
            generalize We.setRow (w.heap.size + 1) (dmCells q d dm) = WZ at HZ ⊢
            refine wpAny_ready (rs := [4]) (by kernel_rfl) (by simp) ?_
            refine AllReady.cons rfl (fun K hK => ?_) AllReady.nil
            go_simp
            refine hK _ _ ?_
            clear hK K
            refine wpAny_done (by kernel_rfl) ?_ _
            go_simp
            refine hK0 _ _ ?_
            refine Met.intro ?_
            refine hJ _ _ ?_
            exact ⟨⟨rfl, rfl, by simp only [List.mem_cons, List.not_mem_nil, or_false, forall_eq_or_imp, forall_eq]; exact ⟨rfl, rfl, rfl, rfl, rfl, rfl, rfl⟩⟩, HZ.out.at4, HZ.out.at5, HZ.out.hold, HZ.out.holdD, HZ.out.low⟩
        · go_simp
          refine hK _ _ ?_
          clear hK K
          refine wpAny_ready (rs := [0]) (by kernel_rfl) (by simp) ?_
          refine AllReady.cons rfl (fun K hK => ?_) AllReady.nil
          go_simp
          refine hK _ _ ?_
          clear hK K
          refine wpAny_ready (rs := [2]) (by kernel_rfl) (by simp) ?_
          refine AllReady.cons rfl (fun K hK => ?_) AllReady.nil
          refine wp_store_row 28 _ _ rfl w.heap.size (memCells p c m) rfl rfl 28 _ HD.out.at4 memSize rfl (mem_one _ _ _) ?_
          have HE := Lib.hid (HD.out.put4)
          refine hK _ _ ?_
          clear hK K
          generalize Wd.setRow w.heap.size (memCells p c m) = We at HE ⊢
          refine wpAny_ready (rs := [3]) (by kernel_rfl) (by simp) ?_
          refine AllReady.cons rfl (fun K hK => ?_) AllReady.nil
          refine wp_store_row 30 _ _ rfl (w.heap.size + 1) (dmCells q d dm) rfl rfl 30 _ HE.out.at5 dmSize rfl (dm_one _ _ _) ?_
          have HZ := Lib.hid (HE.out.put5)
          refine hK _ _ ?_
          clear hK K
          generalize We.setRow (w.heap.size + 1) (dmCells q d dm) = WZ at HZ ⊢
          refine wpAny_ready (rs := [4]) (by kernel_rfl) (by simp) ?_
          refine AllReady.cons rfl (fun K hK => ?_) AllReady.nil
          go_simp
          refine hK _ _ ?_
          clear hK K
          refine wpAny_done (by kernel_rfl) ?_ _
          go_simp
          refine hK0 _ _ ?_
          refine Met.intro ?_
          refine hJ _ _ ?_
          exact ⟨⟨rfl, rfl, by simp only [List.mem_cons, List.not_mem_nil, or_false, forall_eq_or_imp, forall_eq]; exact ⟨rfl, rfl, rfl, rfl, rfl, rfl, rfl⟩⟩, HZ.out.at4, HZ.out.at5, HZ.out.hold, HZ.out.holdD, HZ.out.low⟩
      case rest4 =>
        rintro ⟨T, D⟩ WF ⟨hF, h4, h5, hh, hd, hb⟩
        obtain ⟨hsz, hdf, hat⟩ := hF
        simp only [List.mem_cons, List.not_mem_nil, or_false, forall_eq_or_imp, forall_eq] at hsz hdf hat
        obtain ⟨q0, q1, q2, q3, q4, q5, q6⟩ := hat
        subst hdf
        have hsp := spread T 66 hsz
        simp only [List.range, List.range.loop, List.map_cons, List.map_nil, q0, q1, q2, q3, q4, q5, q6] at hsp
        rw [hsp]
        clear hsp hsz q0 q1 q2 q3 q4 q5 q6
        have HF := Lib.hid (show Hold WF p c m ∧ HoldD WF q d dm ∧ Below w.heap.size w WF from ⟨hh, hd, hb⟩)
        have r0 : WF.cell? ⟨w.heap.size, 0, none⟩ = some (.slice (p 0) (m.row 0).length (c 0)) := (cell_of_row WF _ 0 _ _ _ h4).trans rfl
        have r1 : WF.cell? ⟨w.heap.size, 1, none⟩ = some (.slice (p 1) (m.row 1).length (c 1)) := (cell_of_row WF _ 1 _ _ _ h4).trans rfl
        have r2 : WF.cell? ⟨w.heap.size, 2, none⟩ = some (.slice (p 2) (m.row 2).length (c 2)) := (cell_of_row WF _ 2 _ _ _ h4).trans rfl
        have r3 : WF.cell? ⟨w.heap.size, 3, none⟩ = some (.slice (p 3) (m.row 3).length (c 3)) := (cell_of_row WF _ 3 _ _ _ h4).trans rfl
        have r4 : WF.cell? ⟨w.heap.size, 4, none⟩ = some (.int .i64 (m.n : Nat)) := (cell_of_row WF _ 4 _ _ _ h4).trans rfl
        have s0 : WF.cell? ⟨w.heap.size + 1, 0, none⟩ = some (.int .i64 (dm.n : Nat)) := (cell_of_row WF _ 0 _ _ _ h5).trans rfl
        have s1 : WF.cell? ⟨w.heap.size + 1, 1, none⟩ = some (.slice q dm.l.length d) := (cell_of_row WF _ 1 _ _ _ h5).trans rfl
        clear hh hd hb h4 h5
        go_wp2_with fail
        exact bodyPost_ret (v := .tuple #[memV p c m, dmV q d dm, .bool true]) (by simp [results, Try.results5, go_sem, r0, r1, r2, r3, r4, s0, s1]) rfl ⟨p, c, m, q, d, dm, rfl, HF.out.1, HF.out.2.1, HR.out, HMN.out, HF.out.2.2⟩
end Go.Proofs.Ytgkgpehjedmejaa.Cap
