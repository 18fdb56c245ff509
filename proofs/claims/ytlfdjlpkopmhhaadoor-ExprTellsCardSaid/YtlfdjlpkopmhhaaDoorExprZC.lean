/- Layer 3 (expr): the walk of ExprTells. -/
import Derived.Test.YtlfdjlpkopmhhaaDoorExprZA
import Derived.Test.YtlfdjlpkopmhhaaDoorExprZB
namespace Go.Proofs.YtlfdjlpkopmhhaaDoor.Expr
open Go.RowKit Go.Proofs.YtlfdjlpkopmhhaaDoor.Mem Go.Lib

theorem itemInfo : (Tryd.prog.info? 50).map (fun i => (i.zero, i.size, i.bytes)) = some (some (.agg #[.int .u8 0, .int .u8 0, .int .u64 0, .int .u8 0, .int .u8 0, .int .u8 0]), 6, 24) := by kernel_rfl
theorem item_at (W : World) (a : It) : ∀ j u, (itCells a)[j]? = some u → ((W.alloc (.cells #[.int .u8 a.kind, .int .u8 a.op, .int .u64 a.n, .int .u8 a.t, .int .u8 a.i, .int .u8 a.x] 50)).drew).cell? ((⟨W.heap.size, 0, none⟩ : Addr).add j) = some u := by
  intro j u hu
  have := ((Sits.new W 50 #[.int .u8 a.kind, .int .u8 a.op, .int .u64 a.n, .int .u8 a.t, .int .u8 a.i, .int .u8 a.x]).drew).cell j
  rw [Addr.add_lit, Nat.zero_add, this]
  simpa [itCells] using hu
theorem item_one (a : It) : ∀ u ∈ itCells a, u.oneCell' = true := by
  intro u hu
  simp only [itCells, List.mem_cons, List.not_mem_nil, or_false] at hu
  rcases hu with rfl | rfl | rfl | rfl | rfl | rfl <;> rfl
def its_types : List TypeId := [30, 50]
set_option maxRecDepth 100000 in
set_option maxHeartbeats 4000000 in
theorem tell_good (l : List It) (u : List Nat) (va vu : Value) (w : World) (hA : Row w va l) (hU : URow w vu u) (hbd : ∀ a ∈ l, a.bd) (hu64 : ∀ a ∈ u, a < 18446744073709551616) (hX : Tabs w) (h1 : l.length ≤ 60) (h2 : u.length ≤ 100)
    (m : Nat) (x : Ex) (hs : Sp l 0 x m) (ox : x.ok) (dx : x.depth ≤ 12) (ea : goodV (endOf l) = .tuple #[.int .i64 (m : Nat), .bool true]) :
    Calls Tryd.prog 5 #[va, vu] w fun e w' => Made (.returned (.bool true)) w e w' := by
  have hle := hs.le
  have hsz : x.size ≤ 60 := by have := hs.size; omega
  have hRA : ∀ W, Below w.heap.size w W → Row W va l := fun W hb => hA.below hb
  have hRU : ∀ W, Below w.heap.size w W → URow W vu u := fun W hb => hU.below hb
  have HRA := Lib.hid hRA
  have HG := Lib.hid (fun W (h : Below w.heap.size w W) => ea ▸ good_any l va W (hA.below h))
  have HW := Lib.hid (fun W (h : Below w.heap.size w W) => wakes_any W (hX.below h))
  have HO := Lib.hid (fun W (h : Below w.heap.size w W) => of_good hs dx va W (hA.below h))
  have HM := Lib.hid (fun p W (hT : Tree W (treeOf x) p) => (show Calls _ _ _ _ _ from by have h := may_any (treeOf x) p W hT; rw [fits_of x ox 12 dx] at h; exact h))
  have HEV := Lib.hid (fun v W0 W nB (h0 : W0.heap.size = nB) (hb : Below w.heap.size w W0) (hbL : Sits W0 w.heap.size 31 #[vu]) (hT : Tree W (treeOf x) v) (hj : Cnt W0 nB 0 W) (hB : nB ≤ W.heap.size) => eval_any (next_leafs u hu64 vu W0 nB w.heap.size h0 hbL (hRU W0 hb) h2) x ox dx 0 (by omega) v W hB hT hj)
  have HE := Lib.hid (fun W (h : Below w.heap.size w W) => (show Calls _ _ _ _ _ from by have h := end_any l (l.length + 1) 0 va W (hRA W h) (by omega); rw [sp_endF hs (l.length + 1) (by omega)] at h; exact h))
  have HTX := Lib.hid (fun W (h : Below w.heap.size w W) => (show Calls _ _ _ _ _ from rtext_any hbd hs va W (by omega) (hRA W h)))
  have HV := Lib.hid (fun W (h : Below w.heap.size w W) => (show Calls _ _ _ _ _ from rval_any hbd hu64 hs va vu W 0 (by omega) (by omega) (hRA W h) (hRU W h)))
  have HD := Lib.hid (fun v W (hT : Tree W (treeOf x) v) => (show Calls _ _ _ _ _ from by have h := Depth_any (treeOf x) v W hT; rw [deepF_of x 13 (by omega)] at h; exact h))
  have HT := Lib.hid (fun v W (h : Below w.heap.size w W) (hT : Tree W (treeOf x) v) => text_any x ox dx v W (hX.below h) hT)
  have HWK := Lib.hid (fun W aB oB rB B rv sa so sr own v (hT : Tree W (treeOf x) v) => walk_check hs ox dx (by omega) W aB oB rB B rv sa so sr own v hT)
  have HB0 : Hid (Below w.heap.size w (w.alloc (.cells #[vu] 31))) := Lib.hid ((Below.refl _ _).alloc (Nat.le_refl _) _)
  have HL0 : Hid (Sits (w.alloc (.cells #[vu] 31)) w.heap.size 31 #[vu]) := Lib.hid (Sits.new _ _ _)
  have HLE := Lib.hid hle
  obtain ⟨p, cap, rfl, hl⟩ := hA.len
  obtain ⟨q, cap', rfl, hl'⟩ := hU.len
  have i1 : (l.length : Int) ≤ 60 := by omega
  have i2 : (u.length : Int) ≤ 100 := by omega
  have HD0 := Lib.hid (show x.depth ≤ 12 from dx)
  generalize (x.value (told u) 0).1 = z at HEV HV
  generalize (x.value (told u) 0).2 = k at HEV HV
  generalize str x.text = tx at HTX HT
  generalize x.depth = dp at HE HD HD0
  clear hA hU hX ea hs ox dx hle hsz hRA hRU hbd hu64 h1 h2
  go_enter Tryd.func5, Tryd.ntmps5
  go_wp2_with fail
  refine (HO.out _ HB0.out).mono ?_
  rintro e w1 ⟨px, rfl, ht, hb⟩
  have HB1 := Lib.hid (HB0.out.trans (hb.mono HB0.out.size))
  have HL1 := Lib.hid (HL0.out.below hb HL0.out.lt)
  have HT1 := Lib.hid ht
  clear hb ht
  go_wp2_with fail
  refine (HG.out _ HB1.out).mono ?_
  rintro e w2 ⟨rfl, hb⟩
  have HB2 := Lib.hid (HB1.out.trans (hb.mono HB1.out.size))
  have HL2 := Lib.hid (HL1.out.below hb HL1.out.lt)
  have HT2 := Lib.hid (HT1.out.below hb)
  clear hb
  go_wp2_with fail
  refine (HM.out _ _ HT2.out).mono ?_
  rintro e w3 ⟨rfl, hb⟩
  have HB3 := Lib.hid (HB2.out.trans (hb.mono HB2.out.size))
  have HL3 := Lib.hid (HL2.out.below hb HL2.out.lt)
  have HT3 := Lib.hid (HT2.out.below hb)
  clear hb
  go_wp2_with fail
  have hb4 : Below w3.heap.size w3 (w3.alloc (.cells #[.int .i64 0] 3)) := (Below.refl _ _).alloc (Nat.le_refl _) _
  have hn4 : Sits (w3.alloc (.cells #[.int .i64 0] 3)) w3.heap.size 3 #[.int .i64 (0 : Nat)] := Sits.new _ _ _
  have HB4 := Lib.hid (HB3.out.trans (hb4.mono HB3.out.size))
  have HL4 := Lib.hid (HL3.out.below hb4 HL3.out.lt)
  have HT4 := Lib.hid (HT3.out.below hb4)
  have hlt4 := hn4.lt
  generalize w3.alloc (.cells #[.int .i64 0] 3) = w4 at hb4 hn4 HB4 HL4 HT4 hlt4 ⊢
  refine (HEV.out _ w3 w4 w3.heap.size rfl HB3.out HL3.out HT4.out ⟨hn4, hb4⟩ (Nat.le_of_lt hlt4)).mono ?_
  rintro e w5 ⟨rfl, hj, hf⟩
  have HN5 := Lib.hid hj.n
  have HB5 := Lib.hid (HB3.out.trans (hj.low.mono HB3.out.size))
  have HL5 := Lib.hid (HL3.out.below hj.low HL3.out.lt)
  have HT5 := Lib.hid (HT4.out.stable (hf.by_ _ (by decide)))
  have hls : w.heap.size < w3.heap.size := HL3.out.lt
  clear hb4 hn4 hlt4 hj hf HL4
  go_wp2_with fail
  refine (HE.out _ HB5.out).mono ?_
  rintro e w6 ⟨rfl, hb⟩
  have HN6 := Lib.hid (HN5.out.below hb HN5.out.lt)
  have HB6 := Lib.hid (HB5.out.trans (hb.mono HB5.out.size))
  have HL6 := Lib.hid (HL5.out.below hb HL5.out.lt)
  have HT6 := Lib.hid (HT5.out.below hb)
  clear hb
  simp only [endV]
  go_wp2_with fail
  refine (HTX.out _ HB6.out).mono ?_
  rintro e w7 ⟨rfl, hb⟩
  have HN7 := Lib.hid (HN6.out.below hb HN6.out.lt)
  have HB7 := Lib.hid (HB6.out.trans (hb.mono HB6.out.size))
  have HL7 := Lib.hid (HL6.out.below hb HL6.out.lt)
  have HT7 := Lib.hid (HT6.out.below hb)
  have c7 := HL7.out.cell 0
  have l7 := HL7.out.lt
  clear hb
  go_wp2_with fail
  refine (HV.out _ HB7.out).mono ?_
  rintro e w8 ⟨rfl, hb⟩
  have HN8 := Lib.hid (HN7.out.below hb HN7.out.lt)
  have HB8 := Lib.hid (HB7.out.trans (hb.mono HB7.out.size))
  have HL8 := Lib.hid (HL7.out.below hb HL7.out.lt)
  have HT8 := Lib.hid (HT7.out.below hb)
  clear hb c7 l7
  go_wp2_with fail
  obtain ⟨i0, hi0, hz0, hz1, hz2⟩ := info_parts itemInfo
  have sa9 : Sits (((w8.alloc (.cells #[.int .i64 0] 3)).alloc (.cells #[.bool true] 4)).alloc (.cells #[.slice none 0 0] 30)) w8.heap.size 3 #[.int .i64 (0 : Nat)] := ((Sits.new _ _ _).alloc _).alloc _
  have so9 : Sits (((w8.alloc (.cells #[.int .i64 0] 3)).alloc (.cells #[.bool true] 4)).alloc (.cells #[.slice none 0 0] 30)) (w8.heap.size + 1) 4 #[.bool true] := (Sits.made (by simp) _ _).alloc _
  have sr9 : Sits (((w8.alloc (.cells #[.int .i64 0] 3)).alloc (.cells #[.bool true] 4)).alloc (.cells #[.slice none 0 0] 30)) (w8.heap.size + 1 + 1) 30 #[.slice none 0 0] := Sits.made (by simp) _ _
  have hb9 : Below w8.heap.size w8 (((w8.alloc (.cells #[.int .i64 0] 3)).alloc (.cells #[.bool true] 4)).alloc (.cells #[.slice none 0 0] 30)) := (((Below.refl _ _).alloc (Nat.le_refl _) _).alloc (by simp) _).alloc (by simp; omega) _
  generalize ((w8.alloc (.cells #[.int .i64 0] 3)).alloc (.cells #[.bool true] 4)).alloc (.cells #[.slice none 0 0] 30) = w9 at sa9 so9 sr9 hb9 ⊢
  have HN9 := Lib.hid (HN8.out.below hb9 HN8.out.lt)
  have HB9 := Lib.hid (HB8.out.trans (hb9.mono HB8.out.size))
  have HT9 := Lib.hid (HT8.out.below hb9)
  have HSA := Lib.hid sa9
  have HSO := Lib.hid so9
  have HSR := Lib.hid sr9
  have hn8 : w3.heap.size < w8.heap.size := HN8.out.lt
  have hw8 : w.heap.size ≤ w8.heap.size := HB8.out.size
  have hrl : w8.heap.size + 1 + 1 < w9.heap.size := sr9.lt
  clear sa9 so9 sr9 hb9 HG HO HM HEV HE HTX HV HB0 HB1 HB2 HB3 HB4 HB5 HB6 HB7 HB8 HL0 HL1 HL2 HL3 HL5 HL6 HL7 HL8 HT1 HT2 HT3 HT4 HT5 HT6 HT7 HT8 HN5 HN6 HN7 HN8
  go_loopg [22] m (fun g v22 w' => ∃ i rv wx, wx = w' ∧ i ≤ m ∧ g = m - i ∧ v22 = .int .i64 (i : Nat) ∧ Hid (Sits wx (w8.heap.size + 1 + 1) 30 #[rv]) ∧ Hid (wx.ownsRow (w8.heap.size + 1 + 1) 50 6 rv (its l i).length (itemCells (its l i))) ∧
    Hid (Fr (w8.heap.size + 1 + 1) its_types w9 wx))
  case atStart => exact ⟨0, _, _, rfl, by omega, rfl, rfl, HSR, Lib.hid (World.ownsRow_nil _ _ _ _), Lib.hid (Fr.refl _ _ _)⟩
  case round =>
    obtain ⟨i, rv, wx, rfl, hi, rfl, rfl, HS, HO, HF⟩ := hrel
    have hBx : Below w.heap.size w wx := HB9.out.trans (HF.out.low.mono (by omega))
    have hszx : w9.heap.size ≤ wx.heap.size := HF.out.size
    by_cases hlt : i < m
    · have hle := HLE.out.2
      obtain ⟨a, ha⟩ : ∃ a, l[i]? = some a := ⟨_, List.getElem?_eq_getElem (by omega)⟩
      obtain ⟨g1, o1, cp1, e1, _, hia, hat⟩ := (HRA.out _ hBx).item ha
      injection e1 with e1 _ ec1
      subst e1 ec1
      obtain ⟨x0, x1, x2, x3, x4, x5⟩ := hat
      have cr := HS.out.cell 0
      have lr := HS.out.lt
      have fr := HS.out.free 0
      have lg1 := World.block_lt_of_cell? _ _ x0
      have HIN := Lib.hid (fun hk => its_in ha hk)
      have HOUT := Lib.hid (fun hk => its_out ha hk)
      have hnl := its_len l i
      have ho := HO.out
      have af := own_far ho HS.out (by decide)
      have hit := item_at wx a
      have hio := item_one a
      obtain ⟨q0, q1, q2, q3, q4, q5⟩ := a
      simp only at x0 x1 x2 x3 x4 x5 hit
      have g1' : (i : Int) < (l.length : Int) := by omega
      have g3 : (0 : Int) ≤ i := by omega
      have g4 : (i : Int) < (m : Int) := by omega
      have g5 : (i : Int) ≤ 60 := by omega
      by_cases hk : q0 < 4
      · have k1 : (q0 : Int) < 4 := by omega
        go_upto_region 22 with fail
        go_region_law ((refine step_append_lies _ (by rfl) _ _ _ (by rfl) (w8.heap.size + 1 + 1) 50 i0 _ 6 24 Tryd.underlying30 hi0 hz0 hz1 hz2 rfl (by omega) rv (its l i).length (itemCells (its l i)) (by rfl) ((ho.alloc _).drew) ⟨wx.heap.size, 0, none⟩ 1 1 (itCells ⟨q0, q1, q2, q3, q4, q5⟩) (by rfl) (by rfl) hit hio (by omega) (by unfold maxLen; omega) (by omega) (by simp; omega) (wx.heap.size + 1) (by simp) ?_; intro gg cap1 w1 hown1 hgrow hat hlt1; have S1 := Lib.hid ((HS.out.alloc _).drew.grown hgrow af); have c1 : w1.cell? ⟨w8.heap.size + 1 + 1, 0, none⟩ = some rv := S1.out.cell 0; have f1 := S1.out.free 0; have hgl1 := S1.out.lt))
        all_goals
          have HF1 : Hid (Fr (w8.heap.size + 1 + 1) its_types wx w1) := Lib.hid ⟨(((Below.refl _ wx).alloc (by omega) _).drew).grown hgrow (by simp; omega) (fun k hk => (ho.lt k hk).1), fun t ht => (Stable.below (((Below.refl _ wx).alloc (Nat.le_refl _) _).drew)).trans (grown_stable ((ho.alloc _).drew) hgrow (fun e => ht (by rw [← e]; decide)))⟩
          have HO1 := Lib.hid hown1
          clear hown1 hgrow
          go_wp2_with fail
          go_roundg (m - (i + 1))
          case measure => omega
          case rel =>
            have e := HIN.out hk
            refine ⟨i + 1, _, _, rfl, by omega, rfl, by go_num, Lib.hid (S1.out.put 0 _), Lib.hid ?_, Lib.hid ((HF.out.trans HF1.out).trans ⟨(Below.refl (w8.heap.size + 1 + 1) w1).setCell (p := ⟨w8.heap.size + 1 + 1, 0, none⟩) (Nat.le_refl _) _, fun t ht => Stable.put S1.out (fun e => ht (by rw [e]; decide)) 0 _⟩)⟩
            rw [e, List.length_append, itemCells_snoc]
            exact own_stable HO1.out (Stable.put S1.out (by decide) 0 _)
      · have k1 : (4 : Int) ≤ (q0 : Int) := by omega
        go_wp2_with fail
        go_roundg (m - (i + 1))
        case measure => omega
        case rel =>
          have e := HOUT.out hk
          exact ⟨i + 1, rv, _, rfl, by omega, rfl, by go_num, HS, Lib.hid (by rw [e]; exact HO.out), HF⟩
    · obtain rfl : i = m := by omega
      have hTx : Tree wx (treeOf x) (.pointer px) := HT9.out.stable (HF.out.by_ _ (by decide))
      have sa : Sits wx w8.heap.size 3 #[.int .i64 (0 : Nat)] := HF.out.by_ _ (by decide) _ _ HSA.out
      have so : Sits wx (w8.heap.size + 1) 4 #[.bool true] := HF.out.by_ _ (by decide) _ _ HSO.out
      have sn : Sits wx w3.heap.size 3 #[.int .i64 (k : Nat)] := HF.out.by_ _ (by decide) _ _ HN9.out
      have HWX := Lib.hid (HWK.out wx _ _ _ _ rv sa so HS.out HO.out _ hTx)
      have HTx := Lib.hid hTx
      have HBx := Lib.hid hBx
      have HSN := Lib.hid sn
      obtain ⟨pr, capr, rfl⟩ := own_slice HO.out
      have hnl := its_len l i
      generalize (its l i).length = nr at HS HWX hnl
      have g3 : (i : Int) ≤ i := Int.le_refl _
      have g5 : (nr : Int) ≤ 60 := by have := HLE.out.2; omega
      have lpa := sa.lt
      have lpo := so.lt
      have lpr := HS.out.lt
      clear hTx sa so sn hBx HWK HO HF HT9 HSA HSO HN9 HB9 HRA
      go_wp2_with fail
      refine HWX.out.mono ?_
      rintro e w10 ⟨rfl, hc, hst⟩
      have HN10 := Lib.hid (HSN.out.keep hc.keep (by rintro (h | h) <;> omega))
      have HR10 := Lib.hid (HS.out.keep hc.keep (by rintro (h | h) <;> omega))
      have HA10 := Lib.hid hc.all
      have HO10 := Lib.hid hc.ok
      have HT10 := Lib.hid (HTx.out.stable hst)
      have HB10 := Lib.hid (behind HBx.out hc.keep (by have := HBx.out.size; omega) (by rintro b (h | h) <;> omega))
      clear hc hst
      go_wp2_with fail
      refine (HT.out _ _ HB10.out HT10.out).mono ?_
      rintro e w11 ⟨rfl, hb⟩
      have HN11 := Lib.hid (HN10.out.below hb HN10.out.lt)
      have HR11 := Lib.hid (HR10.out.below hb HR10.out.lt)
      have HA11 := Lib.hid (HA10.out.below hb HA10.out.lt)
      have HO11 := Lib.hid (HO10.out.below hb HO10.out.lt)
      have HT11 := Lib.hid (HT10.out.below hb)
      have HB11 := Lib.hid (HB10.out.trans (hb.mono HB10.out.size))
      have c11 := HN11.out.cell 0
      have l11 := HN11.out.lt
      clear hb
      go_wp2_with fail
      refine (HD.out _ _ HT11.out).mono ?_
      rintro e w12 ⟨rfl, hb⟩
      have cr := (HR11.out.below hb HR11.out.lt).cell 0
      have lr := (HR11.out.below hb HR11.out.lt).lt
      have ca := (HA11.out.below hb HA11.out.lt).cell 0
      have la := (HA11.out.below hb HA11.out.lt).lt
      have co := (HO11.out.below hb HO11.out.lt).cell 0
      have lo := (HO11.out.below hb HO11.out.lt).lt
      have HB12 := Lib.hid (HB11.out.trans (hb.mono HB11.out.size))
      clear hb c11 l11
      go_wp2_with fail
      refine (HW.out _ HB12.out).mono ?_
      rintro e w13 ⟨rfl, hb⟩
      have HB13 := Lib.hid (HB12.out.trans (hb.mono HB12.out.size))
      clear hb cr lr ca la co lo
      go_wp2_with fail
      go_ret
      exact ⟨rfl, HB13.out⟩
theorem tell_any_law (p q : Option Addr) (la lb cap cap' : Nat) (w : World) (hA : la ≤ 1000000 → ∃ l : List It, l.length = la ∧ (∀ a ∈ l, a.bd) ∧ Row w (.slice p la cap) l) (hU : lb ≤ 1000000 → ∃ u : List Nat, u.length = lb ∧ (∀ a ∈ u, a < 18446744073709551616) ∧ URow w (.slice q lb cap') u) (hX : Tabs w) :
    Calls Tryd.prog 5 #[.slice p la cap, .slice q lb cap'] w fun e w' => Made (.returned (.bool true)) w e w' := by
  by_cases h : 60 < la ∨ 100 < lb
  · exact tell_long p q la lb cap cap' w hX h
  · obtain ⟨l, hla, hl, hA⟩ := hA (by omega)
    obtain ⟨u, hlu, hu, hU⟩ := hU (by omega)
    rcases good_view l with ⟨z, ea, hn⟩ | ⟨x, m, hs, dx, ea⟩
    · refine tell_bad l lb _ q cap' w hA hX (by omega) (by omega) z ea ?_
      cases hf : fitsF (ofF l 20 0).1 12 with
      | false => rfl
      | true =>
        obtain ⟨e, he, hd⟩ := sp_of 12 20 0 (by omega) hf
        have := hn e _ he
        omega
    · exact tell_good l u _ _ w hA hU hl hu hX (by omega) (by omega) m x hs (hs.ok hl) dx ea
end Go.Proofs.YtlfdjlpkopmhhaaDoor.Expr
