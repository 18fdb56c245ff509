/- Layer 12 (cap): the document's Capped. -/
import Derived.Test.YtokkcbhmmhmfmaaCapB
import Derived.Test.YtokkcbhmmhmfmaaMmrT
namespace Go.Proofs.Ytokkcbhmmhmfmaa.Cap
open Go.RowKit Go.Proofs.Ytokkcbhmmhmfmaa.Mem Go.Proofs.Ytokkcbhmmhmfmaa.Flow Go.Proofs.Ytokkcbhmmhmfmaa.Mmr

def toD (l : List It) (i : Nat) (x : It) : Int := match l[i + 1]? with
  | some y => y.a
  | none => x.b + 1
def stepD (l : List It) (i : Nat) : List (Int × Int) := match l[i]? with
  | some x => if toD l i x = x.b then [] else [(x.b, toD l i x)]
  | none => []
def partD (l : List It) : Nat → List (Int × Int)
  | 0 => []
  | i + 1 => partD l i ++ stepD l i
theorem stepD_cons (x : It) (l : List It) (i : Nat) : stepD (x :: l) (i + 1) = stepD l i := rfl
theorem partD_cons (x : It) (l : List It) : ∀ i, partD (x :: l) (i + 1) = stepD (x :: l) 0 ++ partD l i
  | 0 => by show [] ++ stepD (x :: l) 0 = stepD (x :: l) 0 ++ []; rw [List.nil_append, List.append_nil]
  | i + 1 => by
    show partD (x :: l) (i + 1) ++ stepD (x :: l) (i + 1) = stepD (x :: l) 0 ++ (partD l i ++ stepD l i)
    rw [partD_cons x l i, stepD_cons, List.append_assoc]
theorem partD_all : ∀ (l : List It), partD l l.length = roomsD l
  | [] => rfl
  | [x] => by
    show [] ++ (if x.b + 1 = x.b then [] else [(x.b, x.b + 1)]) = [(x.b, x.b + 1)]
    rw [if_neg (by omega)]; rfl
  | x :: y :: l => by
    show partD (x :: y :: l) ((y :: l).length + 1) = (if y.a = x.b then [] else [(x.b, y.a)]) ++ roomsD (y :: l)
    rw [partD_cons, partD_all (y :: l)]; rfl
theorem fillD_append (m : Dm) (loc : Int) : ∀ (a b : List (Int × Int)), fillD m loc (a ++ b) = (fillD m loc a).bind fun f => fillD f loc b := by
  intro a
  induction a generalizing m with
  | nil => intro b; rfl
  | cons r a ih =>
    intro b
    show (if (dAdd m (resI loc r.1 r.2)).2 = 0 then fillD (dAdd m (resI loc r.1 r.2)).1 loc (a ++ b) else none) = Option.bind (if (dAdd m (resI loc r.1 r.2)).2 = 0 then fillD (dAdd m (resI loc r.1 r.2)).1 loc a else none) _
    by_cases h : (dAdd m (resI loc r.1 r.2)).2 = 0
    · rw [if_pos h, if_pos h]; exact ih _ b
    · rw [if_neg h, if_neg h]; rfl
theorem partD_prefix (l : List It) : ∀ j i, ∃ t, partD l (i + j) = partD l i ++ t
  | 0, i => ⟨[], by simp⟩
  | j + 1, i => by
    obtain ⟨t, ht⟩ := partD_prefix l j i
    exact ⟨t ++ stepD l (i + j), by show partD l (i + j) ++ stepD l (i + j) = _; rw [ht, List.append_assoc]⟩
theorem partD_stop {m : Dm} {loc : Int} {l : List It} {i : Nat} (hi : i ≤ l.length) (h : fillD m loc (partD l i) = none) : fillD m loc (roomsD l) = none := by
  obtain ⟨t, ht⟩ := partD_prefix l (l.length - i) i
  rw [show i + (l.length - i) = l.length by omega, partD_all] at ht
  rw [ht, fillD_append, h]; rfl
theorem upD_none {m : Dm} {k : Nat} (h : upD m k = none) : ∀ j, upD m (k + j) = none
  | 0 => h
  | j + 1 => by
    show (upD m (k + j)).bind _ = none
    rw [upD_none h j]; rfl
theorem capD_no {m : Dm} {k : Nat} (hk : k ≤ m.n) (h : upD m k = none) : capD m = (m, 4) := by
  unfold capD
  have := upD_none h (m.n - k)
  rw [show k + (m.n - k) = m.n by omega] at this
  rw [this]
theorem capD_yes {m f : Dm} (h : upD m m.n = some f) : capD m = (f, 0) := by unfold capD; rw [h]
theorem rep_may {m : Mm} {w : Dm} (h : Rep m w) : ∀ y ∈ w.l, Spn.mayF y.a y.b = true := fun y hy => by
  obtain ⟨h0, h1⟩ := h.loc y hy
  have := (h.mem (has_iff.2 ⟨h0, h1⟩)).2 ⟨hy, rfl⟩
  exact h.ok.may _ _ this
structure DcAt (w : World) (q : Option Addr) (c : Nat) (m : Dm) (q' : Option Addr) (c' : Nat) (f : Dm) (W : World) : Prop where
  at1 : Sits W w.heap.size 37 (dmCells q c m)
  at2 : Sits W (w.heap.size + 1) 37 zeroDm
  at4 : Sits W (w.heap.size + 1 + 1) 37 (dmCells q' c' f)
  hold : HoldD W q c m
  hold' : HoldD W q' c' f
  low : Below w.heap.size w W
section
variable {w W W' : World} {q q' q2 : Option Addr} {c c' c2 : Nat} {m f f2 : Dm}
theorem DcAt.grown (h : DcAt w q c m q' c' f W) (hb : Below W.heap.size W W') : DcAt w q c m q' c' f W' :=
  ⟨h.at1.below hb h.at1.lt, h.at2.below hb h.at2.lt, h.at4.below hb h.at4.lt, h.hold.below hb, h.hold'.below hb, h.low.trans (hb.mono h.low.size)⟩
theorem holdD_over {g : Nat} {t : TypeId} {cs : Array Value} (h : HoldD W q c m) (hs : Sits W g t cs) (hc : ∀ u ∈ cs.toList, ∀ k z, u = .int k z → k = .i64) (cs' : Array Value) : HoldD (W.setRow g cs') q c m :=
  ⟨rts_row h.row (rts_far h.row hs hc) cs', h.cap⟩
theorem DcAt.put4 (h : DcAt w q c m q' c' f W) (hh : HoldD W q2 c2 f2) : DcAt w q c m q2 c2 f2 (W.setRow (w.heap.size + 1 + 1) (dmCells q2 c2 f2)) :=
  ⟨(setRow_other W _ _ _ (by omega)).trans h.at1, (setRow_other W _ _ _ (by omega)).trans h.at2, setRow_heap W _ _ _ _ _ h.at4, holdD_over h.hold h.at4 (dm_plain _ _ _) _, holdD_over hh h.at4 (dm_plain _ _ _) _, row_low h.low (by omega) _⟩
end
set_option maxRecDepth 100000 in
set_option maxHeartbeats 8000000 in
theorem dcapped_any (q : Option Addr) (c : Nat) (m : Dm) (mm : Mm) (hR : Rep mm m) (w : World) (hH : HoldD w q c m) :
    Calls Try.prog 33 #[dmV q c m] w (GivesDE (capD m) w) := by
  have H0 : Hid (DcAt w q c m q c m (((w.alloc (.cells (dmCells q c m) 37)).alloc (.cells zeroDm 37)).alloc (.cells (dmCells q c m) 37))) := Lib.hid
    ⟨((Sits.new _ _ _).alloc _).alloc _, (Sits.made (by simp) _ _).alloc _, Sits.made (by simp) _ _, hH.below (Vew.below3 _ _ _ _), hH.below (Vew.below3 _ _ _ _), Vew.below3 _ _ _ _⟩
  have HR := Lib.hid hR
  clear hR hH
  go_enter Try.func33, Try.ntmps33
  go_upto_region 2 with (fail)
  generalize ((w.alloc (.cells (dmCells q c m) 37)).alloc (.cells zeroDm 37)).alloc (.cells (dmCells q c m) 37) = w0 at H0 ⊢
  go_wp2_with fail
  refine wp_loop_ghost_k (fun n A W => ∃ (k : Nat) (q' : Option Addr) (c' : Nat) (f : Dm) (fm : Mm), k ≤ m.n ∧ n = m.n - k ∧ Fr 71 [(1, .pointer (some ⟨w.heap.size, 0, none⟩)), (2, .pointer (some ⟨w.heap.size + 1, 0, none⟩)), (4, .pointer (some ⟨w.heap.size + 1 + 1, 0, none⟩)), (5, .int .i64 (k : Nat))] A ∧ DcAt w q c m q' c' f W ∧ upD m k = some f ∧ Rep fm f) m.n ?_ ?_
  · exact ⟨0, q, c, m, mm, by omega, by omega, ⟨rfl, rfl, by simp only [List.mem_cons, List.not_mem_nil, or_false, forall_eq_or_imp, forall_eq]; exact ⟨rfl, rfl, rfl, rfl⟩⟩, H0.out, rfl, HR.out⟩
  · rintro n ⟨T, D⟩ wr ⟨k, q', c', f, fm, hk, rfl, hF, hW, hU, hRf⟩ J K hJ hK
    obtain ⟨hsz, hdf, hat⟩ := hF
    simp only [List.mem_cons, List.not_mem_nil, or_false, forall_eq_or_imp, forall_eq] at hsz hdf hat
    obtain ⟨q0, q1, q2, q3⟩ := hat
    subst hdf
    have hsp := spread T 71 hsz
    simp only [List.range, List.range.loop, List.map_cons, List.map_nil, q0, q1, q2, q3] at hsp
    rw [hsp]
    clear hsp hsz q0 q1 q2 q3
    have HW := Lib.hid hW
    have HU := Lib.hid hU
    have HRf := Lib.hid hRf
    clear hW hU hRf H0
    have n4 : (m.n : Int) ≤ 4 := by have := HR.out.n; have := HR.out.ok.most; omega
    by_cases hlt : k < m.n
    · have j1 : (k : Int) < (m.n : Int) := by omega
      have HK := Lib.hid hlt
      clear hlt hk
      have lb := (HW.out.at1).lt
      have b0 : wr.cell? ⟨w.heap.size, 0, none⟩ = some (.int .i64 (m.n : Nat)) := (HW.out.at1).cell 0
      have b1 : wr.cell? ⟨w.heap.size, 1, none⟩ = some (.slice q m.l.length c) := (HW.out.at1).cell 1
      go_wp2_with fail
      refine (dlist_any q c m (by have := HR.out.len; omega) (k : Int) wr HW.out.hold).mono ?_
      rintro e w1 ⟨r, d, rfl, hr, hb, _⟩
      have HLL := Lib.hid (show (dList m (k : Int)).length ≤ 160 from Nat.le_trans (dlist_len m _) HR.out.len)
      have HMY : Hid (∀ x ∈ dList m (k : Int), MayX x) := Lib.hid (by rw [rep_list HR.out]; exact fun x hx => list_mem HR.out.ok hx)
      have HPA := Lib.hid (partD_all (dList m (k : Int)))
      have HUS : Hid (upD m (k + 1) = fillD f (k : Int) (roomsD (dList m (k : Int)))) := Lib.hid (by show (upD m k).bind _ = _; rw [HU.out]; rfl)
      have HW1 := Lib.hid (HW.out.grown hb)
      have HRR := Lib.hid hr
      clear lb b0 b1
      clear hb hr HW
      generalize dList m (k : Int) = L at HLL HMY HPA HUS HRR ⊢
      have i1 : (L.length : Int) ≤ 160 := by have := HLL.out; omega
      go_wp2_with fail
      refine wp_loop_ghost_k (fun n A W => ∃ (i : Nat) (q2 : Option Addr) (c2 : Nat) (f2 : Dm) (fm2 : Mm), i ≤ L.length ∧ n = L.length - i ∧ Fr 71 [(1, .pointer (some ⟨w.heap.size, 0, none⟩)), (2, .pointer (some ⟨w.heap.size + 1, 0, none⟩)), (4, .pointer (some ⟨w.heap.size + 1 + 1, 0, none⟩)), (5, .int .i64 (k : Nat)), (6, .slice r L.length d), (7, .int .i64 (i : Nat))] A ∧ DcAt w q c m q2 c2 f2 W ∧ Rts W r L ∧ fillD f (k : Int) (partD L i) = some f2 ∧ Rep fm2 f2) L.length ?_ ?_
      · exact ⟨0, q', c', f, fm, by omega, by omega, ⟨rfl, rfl, by simp only [List.mem_cons, List.not_mem_nil, or_false, forall_eq_or_imp, forall_eq]; exact ⟨rfl, rfl, rfl, rfl, rfl, rfl⟩⟩, HW1.out, HRR.out, rfl, HRf.out⟩
      · rintro n ⟨T, D⟩ W ⟨i, q2, c2, f2, fm2, hi, rfl, hF, hW, hRt, hfl, hRf2⟩ J2 K2 hJ2 hK2
        obtain ⟨hsz, hdf, hat⟩ := hF
        simp only [List.mem_cons, List.not_mem_nil, or_false, forall_eq_or_imp, forall_eq] at hsz hdf hat
        obtain ⟨q0, q1, q2, q3, q4, q5⟩ := hat
        subst hdf
        have hsp := spread T 71 hsz
        simp only [List.range, List.range.loop, List.map_cons, List.map_nil, q0, q1, q2, q3, q4, q5] at hsp
        rw [hsp]
        clear hsp hsz q0 q1 q2 q3 q4 q5
        have HW := Lib.hid hW
        have HRT := Lib.hid hRt
        have HFL := Lib.hid hfl
        have HRF := Lib.hid hRf2
        clear hW hRt hfl hRf2 HW1 HRR
        by_cases hil : i < L.length
        · have hx : L[i]? = some L[i] := List.getElem?_eq_getElem hil
          have HMX := Lib.hid (HMY.out _ (List.getElem_mem hil))
          have HX := Lib.hid hx
          obtain ⟨g, o, rfl, lg, hc⟩ := HRT.out.there hx
          generalize L[i] = x at hx hc HX HMX
          obtain ⟨a0, a1, a2, a3, a4, a5, a6, a7, a8, a9, a10, a11, a12, a13⟩ := hc
          have k1 : (i : Int) < (L.length : Int) := by omega
          have k0 : (0 : Int) ≤ (i : Int) := by omega
          have HIL := Lib.hid hil
          have hb1 : 0 ≤ x.b ∧ x.b ≤ 1048576 := by have := may_le HMX.out; omega
          have HXB := Lib.hid hb1
          have hwr := IntWalk.i64_in (x.b + 1) (by omega)
          clear hx hil hi hb1
          go_upto_region 9 with (fail)
          refine wp_cut (fun A W2 => Fr 71 [(1, .pointer (some ⟨w.heap.size, 0, none⟩)), (2, .pointer (some ⟨w.heap.size + 1, 0, none⟩)), (4, .pointer (some ⟨w.heap.size + 1 + 1, 0, none⟩)), (5, .int .i64 (k : Nat)), (6, .slice (some ⟨g, o, none⟩) L.length d), (7, .int .i64 (i : Nat)), (8, .int .i64 x.b), (9, .int .i64 (x.b + 1))] A ∧ Below W.heap.size W W2) ?rest ?first
          case first =>
            intro J K hJ hK
            go_quiet (fail)
            go_wp2_with fail
            refine Met.intro ?_
            go_step
            exact ⟨⟨rfl, rfl, by simp only [List.mem_cons, List.not_mem_nil, or_false, forall_eq_or_imp, forall_eq]; exact ⟨rfl, rfl, rfl, rfl, rfl, rfl, rfl, rfl⟩⟩, drewN_low _ _⟩
          case rest =>
            rintro ⟨T, D⟩ W2 ⟨hF, hb⟩
            obtain ⟨hsz, hdf, hat⟩ := hF
            simp only [List.mem_cons, List.not_mem_nil, or_false, forall_eq_or_imp, forall_eq] at hsz hdf hat
            obtain ⟨q0, q1, q2, q3, q4, q5, q6, q7⟩ := hat
            subst hdf
            have hsp := spread T 71 hsz
            simp only [List.range, List.range.loop, List.map_cons, List.map_nil, q0, q1, q2, q3, q4, q5, q6, q7] at hsp
            rw [hsp]
            clear hsp hsz q0 q1 q2 q3 q4 q5 q6 q7
            have HW2 := Lib.hid (HW.out.grown hb)
            have HRT2 := Lib.hid (HRT.out.below hb)
            clear hb HW HRT a0 a1 a2 a3 a4 a5 a6 a7 a8 a9 a10 a11 a12 a13 lg
            have hwi := IntWalk.i64_in ((i : Int) + 1) (by omega)
            go_upto_if 45 with (fail)
            refine wp_cut (fun A W3 => Fr 71 [(1, .pointer (some ⟨w.heap.size, 0, none⟩)), (2, .pointer (some ⟨w.heap.size + 1, 0, none⟩)), (4, .pointer (some ⟨w.heap.size + 1 + 1, 0, none⟩)), (5, .int .i64 (k : Nat)), (6, .slice (some ⟨g, o, none⟩) L.length d), (7, .int .i64 (i : Nat)), (8, .int .i64 x.b), (9, .int .i64 (toD L i x))] A ∧ W3 = W2) ?rest3 ?first3
            case first3 =>
              intro J K hJ hK

              by_cases hn : i + 1 < L.length
              · have hy : L[i + 1]? = some L[i + 1] := List.getElem?_eq_getElem hn
                obtain ⟨g', o', e', lg, hc⟩ := HRT2.out.there hy
                injection e' with e'; injection e' with e1 e2; subst e1 e2
                have HT : Hid (toD L i x = (L[i + 1]).a) := Lib.hid (by unfold toD; rw [hy])
                generalize L[i + 1] = y at hc HT
                obtain ⟨a0, a1, a2, a3, a4, a5, a6, a7, a8, a9, a10, a11, a12, a13⟩ := hc
                have m1 : (i : Int) + 1 < (L.length : Int) := by omega
                have m0 : (0 : Int) ≤ (i : Int) + 1 := by omega
                have mt : ((i : Int) + 1).toNat = i + 1 := by omega
                clear hn hy
                go_wp2_with fail
                refine Met.intro ?_
                go_step
                exact ⟨⟨rfl, rfl, by simp only [List.mem_cons, List.not_mem_nil, or_false, forall_eq_or_imp, forall_eq]; exact ⟨rfl, rfl, rfl, rfl, rfl, rfl, rfl, congrArg (Value.int .i64) HT.out.symm⟩⟩, rfl⟩
              · have m1 : ¬ ((i : Int) + 1 < (L.length : Int)) := by omega
                have HT : Hid (toD L i x = x.b + 1) := Lib.hid (by unfold toD; rw [List.getElem?_eq_none (by omega)])
                clear hn
                go_wp2_with fail
                refine Met.intro ?_
                go_step
                exact ⟨⟨rfl, rfl, by simp only [List.mem_cons, List.not_mem_nil, or_false, forall_eq_or_imp, forall_eq]; exact ⟨rfl, rfl, rfl, rfl, rfl, rfl, rfl, congrArg (Value.int .i64) HT.out.symm⟩⟩, rfl⟩
            case rest3 =>
              rintro ⟨T, D⟩ W3 ⟨hF, hE⟩
              obtain ⟨hsz, hdf, hat⟩ := hF
              simp only [List.mem_cons, List.not_mem_nil, or_false, forall_eq_or_imp, forall_eq] at hsz hdf hat
              obtain ⟨q0, q1, q2, q3, q4, q5, q6, q7⟩ := hat
              subst hdf
              have hsp := spread T 71 hsz
              simp only [List.range, List.range.loop, List.map_cons, List.map_nil, q0, q1, q2, q3, q4, q5, q6, q7] at hsp
              rw [hsp]
              clear hsp hsz q0 q1 q2 q3 q4 q5 q6 q7
              rw [hE]
              clear hE
              have HST : Hid (partD L (i + 1) = partD L i ++ if toD L i x = x.b then [] else [(x.b, toD L i x)]) := Lib.hid (by show partD L i ++ stepD L i = _; unfold stepD; rw [HX.out])
              have HTB : Hid ((toD L i x).natAbs ≤ 2 ^ 40) := Lib.hid (by
                unfold toD
                cases hy : L[i + 1]? with
                | none => show (x.b + 1).natAbs ≤ _; have := HXB.out; omega
                | some y => show (y.a).natAbs ≤ _; have := may_le (HMY.out y (List.mem_of_getElem? hy)); omega)
              generalize toD L i x = t at HST HTB ⊢
              by_cases ht : t = x.b
              · have ht' : (t == x.b) = true := by simpa using ht
                have HST2 : Hid (partD L (i + 1) = partD L i) := Lib.hid (by rw [HST.out, if_pos ht, List.append_nil])
                clear ht
                go_wp2_with fail
                refine Handed.intro (L.length - (i + 1)) (by have := HIL.out; omega) ?_
                refine hJ2 _ _ _ ?_
                exact ⟨i + 1, q2, c2, f2, fm2, by have := HIL.out; omega, rfl, ⟨rfl, rfl, by simp only [List.mem_cons, List.not_mem_nil, or_false, forall_eq_or_imp, forall_eq]; exact ⟨rfl, rfl, rfl, rfl, rfl, rfl⟩⟩, HW2.out, HRT2.out, by rw [HST2.out]; exact HFL.out, HRF.out⟩
              · have ht' : (t == x.b) = false := by simpa using ht
                have HFN : Hid (fillD f (k : Int) (partD L (i + 1)) = if (dAdd f2 (resI (k : Int) x.b t)).2 = 0 then some (dAdd f2 (resI (k : Int) x.b t)).1 else none) := Lib.hid (by
                  rw [HST.out, if_neg ht, fillD_append, HFL.out]; rfl)
                clear ht
                have HC := Lib.hid (dadd_any q2 c2 f2 (by have := HRF.out.len; omega) (rep_may HRF.out) (resI (k : Int) x.b t) W2 HW2.out.hold')
                have HRA := Lib.hid (rep_add HRF.out (resI (k : Int) x.b t))
                obtain ⟨f3, e3, hm3⟩ : ∃ f3 e3, dAdd f2 (resI (k : Int) x.b t) = (f3, e3) := ⟨_, _, rfl⟩
                have HR3 : Hid (∃ fm3, Rep fm3 f3) := Lib.hid ⟨_, by have := HRA.out.2; rw [hm3] at this; exact this⟩
                rw [hm3] at HC HFN
                clear hm3
                have lb := (HW2.out.at4).lt
                have b0 : W2.cell? ⟨w.heap.size + 1 + 1, 0, none⟩ = some (.int .i64 (f2.n : Nat)) := (HW2.out.at4).cell 0
                have b1 : W2.cell? ⟨w.heap.size + 1 + 1, 1, none⟩ = some (.slice q2 f2.l.length c2) := (HW2.out.at4).cell 1
                go_wp2_with fail
                refine HC.out.mono ?_
                rintro e W4 ⟨q3, c3, rfl, hh, hb⟩
                dsimp only at hh ⊢
                have S10 := Lib.hid (Sits.new W4 37 (dmCells q3 c3 f3))
                have HB4 : Hid (Below W2.heap.size W2 (W4.alloc (.cells (dmCells q3 c3 f3) 37))) := Lib.hid (hb.trans ((one_low W4 (.cells (dmCells q3 c3 f3) 37)).mono hb.size))
                have HH4 := Lib.hid (hh.below (one_low W4 (.cells (dmCells q3 c3 f3) 37)))
                have HW4 := Lib.hid (HW2.out.grown HB4.out)
                have HRT4 := Lib.hid (HRT2.out.below HB4.out)
                clear lb b0 b1
                clear hh hb HC HW2 HRT2 HB4
                go_upto_region 14 with (fail)
                generalize W4.alloc (.cells (dmCells q3 c3 f3) 37) = W5 at S10 HH4 HW4 HRT4 ⊢
                generalize W4.heap.size = g10 at S10 ⊢
                by_cases he : e3 = 0
                · subst he
                  have HY : Hid (fillD f (k : Int) (partD L (i + 1)) = some f3) := Lib.hid (by rw [HFN.out, if_pos rfl])
                  have lb := (S10.out).lt
                  have b0 : W5.cell? ⟨g10, 0, none⟩ = some (.int .i64 (f3.n : Nat)) := (S10.out).cell 0
                  have b1 : W5.cell? ⟨g10, 1, none⟩ = some (.slice q3 f3.l.length c3) := (S10.out).cell 1
                  go_wp2_with (refine wpList_store_row rfl 37 _ _ rfl (w.heap.size + 1 + 1) (dmCells q3 c3 f3) rfl rfl 37 _ HW4.out.at4 dmSize rfl (dm_one _ _ _) ?_)
                  refine Handed.intro (L.length - (i + 1)) (by have := HIL.out; omega) ?_
                  refine hJ2 _ _ _ ?_
                  obtain ⟨fm3, h3⟩ := HR3.out
                  exact ⟨i + 1, q3, c3, f3, fm3, by have := HIL.out; omega, rfl, ⟨rfl, rfl, by simp only [List.mem_cons, List.not_mem_nil, or_false, forall_eq_or_imp, forall_eq]; exact ⟨rfl, rfl, rfl, rfl, rfl, rfl⟩⟩, HW4.out.put4 HH4.out, rts_row HRT4.out (rts_far HRT4.out HW4.out.at4 (dm_plain _ _ _)) _, HY.out, h3⟩
                · have he' : (e3 != 0) = true := by simpa using he
                  have HCAP : Hid (capD m = (m, 4)) := Lib.hid (capD_no (k := k + 1) (by have := HK.out; omega) (by
                    rw [HUS.out]
                    exact partD_stop (i := i + 1) HIL.out (by rw [HFN.out, if_neg he])))
                  clear he
                  have lb := (HW4.out.at1).lt
                  have b0 : W5.cell? ⟨w.heap.size, 0, none⟩ = some (.int .i64 (m.n : Nat)) := (HW4.out.at1).cell 0
                  have b1 : W5.cell? ⟨w.heap.size, 1, none⟩ = some (.slice q m.l.length c) := (HW4.out.at1).cell 1
                  go_wp2_with (refine wpList_store_row rfl 37 _ _ rfl (w.heap.size + 1) (dmCells q c m) rfl rfl 37 _ HW4.out.at2 dmSize rfl (dm_one _ _ _) ?_; have HF2 := Lib.hid (setRow_heap W5 _ _ (dmCells q c m) _ _ HW4.out.at2); have HF3 := Lib.hid (holdD_over HW4.out.hold HW4.out.at2 zeroDm_plain (dmCells q c m)); have HF4 := Lib.hid (row_low HW4.out.low (by omega : w.heap.size ≤ w.heap.size + 1) (dmCells q c m)); generalize W5.setRow (w.heap.size + 1) (dmCells q c m) = WF at HF2 HF3 HF4 ⊢; have r0 : WF.cell? ⟨w.heap.size + 1, 0, none⟩ = some (.int .i64 (m.n : Nat)) := (cell_of_row WF _ 0 _ _ _ HF2.out).trans rfl; have r1 : WF.cell? ⟨w.heap.size + 1, 1, none⟩ = some (.slice q m.l.length c) := (cell_of_row WF _ 1 _ _ _ HF2.out).trans rfl)
                  exact bodyPost_ret (v := .tuple #[dmV q c m, .int .i64 4]) (by simp [results, Try.results33, go_sem, r0, r1]) rfl (by rw [HCAP.out]; exact ⟨q, c, rfl, HF3.out, HF4.out⟩)
        · obtain rfl : i = L.length := by omega
          have k1 : ¬ ((L.length : Int) < (L.length : Int)) := by omega
          have HU2 : Hid (upD m (k + 1) = some f2) := Lib.hid (by rw [HUS.out, ← HPA.out]; exact HFL.out)
          clear hil hi
          go_wp2_with fail
          refine Handed.intro (m.n - (k + 1)) (by have := HK.out; omega) ?_
          refine hJ _ _ _ ?_
          exact ⟨k + 1, q2, c2, f2, fm2, by have := HK.out; omega, rfl, ⟨rfl, rfl, by simp only [List.mem_cons, List.not_mem_nil, or_false, forall_eq_or_imp, forall_eq]; exact ⟨rfl, rfl, rfl, rfl⟩⟩, HW.out, HU2.out, HRF.out⟩
    · obtain rfl : k = m.n := by omega
      have j1 : ¬ ((m.n : Int) < (m.n : Int)) := by omega
      have HCAP : Hid (capD m = (f, 0)) := Lib.hid (capD_yes HU.out)
      clear hlt hk
      have la := (HW.out.at1).lt
      have a0 : wr.cell? ⟨w.heap.size, 0, none⟩ = some (.int .i64 (m.n : Nat)) := (HW.out.at1).cell 0
      have a1 : wr.cell? ⟨w.heap.size, 1, none⟩ = some (.slice q m.l.length c) := (HW.out.at1).cell 1
      have lb := (HW.out.at4).lt
      have b0 : wr.cell? ⟨w.heap.size + 1 + 1, 0, none⟩ = some (.int .i64 (f.n : Nat)) := (HW.out.at4).cell 0
      have b1 : wr.cell? ⟨w.heap.size + 1 + 1, 1, none⟩ = some (.slice q' f.l.length c') := (HW.out.at4).cell 1
      go_wp2_with (refine wpList_store_row rfl 37 _ _ rfl (w.heap.size + 1) (dmCells q' c' f) rfl rfl 37 _ HW.out.at2 dmSize rfl (dm_one _ _ _) ?_; have HF2 := Lib.hid (setRow_heap wr _ _ (dmCells q' c' f) _ _ HW.out.at2); have HF3 := Lib.hid (holdD_over HW.out.hold' HW.out.at2 zeroDm_plain (dmCells q' c' f)); have HF4 := Lib.hid (row_low HW.out.low (by omega : w.heap.size ≤ w.heap.size + 1) (dmCells q' c' f)); generalize wr.setRow (w.heap.size + 1) (dmCells q' c' f) = WF at HF2 HF3 HF4 ⊢; have r0 : WF.cell? ⟨w.heap.size + 1, 0, none⟩ = some (.int .i64 (f.n : Nat)) := (cell_of_row WF _ 0 _ _ _ HF2.out).trans rfl; have r1 : WF.cell? ⟨w.heap.size + 1, 1, none⟩ = some (.slice q' f.l.length c') := (cell_of_row WF _ 1 _ _ _ HF2.out).trans rfl)
      exact bodyPost_ret (v := .tuple #[dmV q' c' f, .int .i64 0]) (by simp [results, Try.results33, go_sem, r0, r1]) rfl (by rw [HCAP.out]; exact ⟨q', c', rfl, HF3.out, HF4.out⟩)
end Go.Proofs.Ytokkcbhmmhmfmaa.Cap
