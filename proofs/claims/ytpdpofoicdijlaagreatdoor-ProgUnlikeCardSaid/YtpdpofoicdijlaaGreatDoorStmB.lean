/- Layer 4 (prog): the small calls of Text: a mode, a letter, a register, a call's form, a line. -/
import Derived.Test.YtpdpofoicdijlaaGreatDoorStmA
import Derived.Test.YtpdpofoicdijlaaGreatDoorStmS
import Derived.Test.YtpdpofoicdijlaaGreatDoorExprM
import Derived.Lib.Join
namespace Go.Proofs.YtpdpofoicdijlaaGreatDoor.Prog
open Go.RowKit Go.Proofs.YtpdpofoicdijlaaGreatDoor.Mem Go.Proofs.YtpdpofoicdijlaaGreatDoor.Expr Go.Lib

/-! ### The table of modes; all tables -/
def modes : List (List UInt8) := [[], [112, 108, 110], [114, 108, 120], [97, 99, 113], [114, 101, 108], [97, 114], [115, 99]]
theorem modeTxt_eq (m : Nat) : modeTxt m = modes.getD m [] := rfl
def ModeAt (w : World) : Prop := 0 < w.heap.size ∧ ∀ i : Nat, i < 7 → w.cell? ⟨0, i, none⟩ = some (.string (str (modeTxt i)))
theorem ModeAt.below {w w' : World} (h : ModeAt w) (hb : Below w.heap.size w w') : ModeAt w' :=
  ⟨Nat.lt_of_lt_of_le h.1 hb.size, fun i hi => (hb.cell (p := ⟨0, i, none⟩) h.1).trans (h.2 i hi)⟩
def All (w : World) : Prop := Tabs w ∧ ModeAt w
theorem All.below {w w' : World} (h : All w) (hb : Below w.heap.size w w') : All w' := ⟨h.1.below hb, h.2.below hb⟩
theorem modeTxt_none {m : Nat} (h : 7 ≤ m) : modeTxt m = [] := by
  unfold modeTxt; rw [List.getD_eq_getElem?_getD, List.getElem?_eq_none (by simp; omega)]; rfl
theorem modeTxt_len (m : Nat) : (modeTxt m).length ≤ 3 := by
  by_cases h : 7 ≤ m
  · rw [modeTxt_none h]; simp
  · obtain rfl | rfl | rfl | rfl | rfl | rfl | rfl : m = 0 ∨ m = 1 ∨ m = 2 ∨ m = 3 ∨ m = 4 ∨ m = 5 ∨ m = 6 := by omega
    all_goals decide
theorem mode_any (m : Nat) (hm : m < 256) (w : World) (hT : ModeAt w) : Calls Tryz.prog 68 #[.int .u8 (m : Nat)] w fun e w' => Made (.returned (.string (str (modeTxt m)))) w e w' := by
  by_cases h : 7 ≤ m
  · have i1 : (7 : Int) ≤ (m : Int) := by omega
    have HT := Lib.hid (modeTxt_none h)
    clear h hT
    go_enter Tryz.func68, Tryz.ntmps68
    go_wp2_with fail
    go_ret
    exact ⟨by rw [HT.out]; rfl, Below.refl _ _⟩
  · have hcell := hT.2 m (by omega)
    have i1 : (m : Int) < 7 := by omega
    generalize modeTxt m = t at hcell ⊢
    clear h hT
    go_enter Tryz.func68, Tryz.ntmps68
    go_wp2_with fail
    go_ret
    exact ⟨rfl, Below.refl _ _⟩
theorem letter_any (x : Nat) (hx : x < 256) (w : World) : Calls Tryz.prog 31 #[.int .u8 (x : Nat)] w fun e w' => Made (.returned (.string (str [x.toUInt8]))) w e w' := by
  have hcv : (convert 66 9 (.slice (some ⟨w.heap.size, 0, none⟩) 1 1)).run Tryz.prog (w.alloc (.cells #[.int .u8 x] 5)) = .ok (.string (str [x.toUInt8])) (w.alloc (.cells #[.int .u8 x] 5)) := by
    refine run_convert_bytes_back (P := Tryz.prog) (w.alloc (.cells #[.int .u8 x] 5)) 66 9 5 ⟨w.heap.size, 0, none⟩ 1 [x.toUInt8] Tryz.underlying66 Tryz.underlying5 Tryz.underlying9 fun j hj => ?_
    obtain rfl : j = 0 := by simpa using hj
    have e : ((x.toUInt8.toNat : Nat) : Int) = x := by simp; omega
    show _ = some (Value.int .u8 (x.toUInt8.toNat : Int))
    rw [e]
    exact (Sits.new w 5 #[.int .u8 x]).cell 0
  go_enter Tryz.func31, Tryz.ntmps31
  go_wp2_with fail
  go_ret
  exact ⟨rfl, (Below.refl _ _).alloc (Nat.le_refl _) _⟩
theorem itoa_more (n : Nat) (hn : n < 1000000) (w : World) (hP : PowAt w) : Calls Tryz.prog 115 #[.int .i64 (n : Nat)] w fun e w' => Made (.returned (.string (str (dec n)))) w e w' := by
  refine (Tryz.strconv_Itoa (n : Int) (by omega) (by omega) w hP).mono ?_
  rintro e w' ⟨rfl, k, os, rfl⟩
  exact ⟨by unfold Lib.itoa; rw [if_neg (by omega)]; rfl, below_grow _ _ (Nat.le_refl _) k os⟩

/-! ### Statements in memory -/
/-- The eight cells of a statement. -/
def stCells (m : Mk) (av bv tv ev : Value) : List Value := [.int .u8 m.kind, .int .u8 m.reg, .int .u8 m.mode, .int .u8 m.loc, av, bv, tv, ev]
def stAgg (m : Mk) (av bv tv ev : Value) : Value := .agg #[.int .u8 m.kind, .int .u8 m.reg, .int .u8 m.mode, .int .u8 m.loc, av, bv, tv, ev]
theorem stText (x y : List UInt8) (h : x.length + y.length ≤ 9223372036854775807) (w : World) : (Op.stringOp .add (str x) (str y)).run Tryz.prog w = .ok (.string (str (x ++ y))) w := add_str x y h w
set_option maxRecDepth 100000 in
theorem register_st (m : Mk) (hr : m.reg < 256) (av bv tv ev : Value) (w : World) (hP : PowAt w) : Calls Tryz.prog 66 #[stAgg m av bv tv ev] w fun e w' => Made (.returned (.string (str (114 :: dec m.reg)))) w e w' := by
  have HI := Lib.hid (fun W (hb : Below w.heap.size w W) => itoa_more m.reg (by omega) W (hP.below hb))
  have hl := dec_len m.reg (by omega)
  have h1 : ∀ W, (Op.stringOp .add ⟨#[114]⟩ (str (dec m.reg))).run Tryz.prog W = .ok (.string (str (114 :: dec m.reg))) W := fun W => add_str [114] (dec m.reg) (by simp; omega) W
  obtain ⟨k, r, mo, x, a, b⟩ := m
  simp only at HI hl h1
  have i1 : (r : Int) < 256 := by simp only at hr; omega
  unfold stAgg
  simp only
  clear hP hl hr
  go_enter Tryz.func66, Tryz.ntmps66
  go_wp2_with fail
  refine (HI.out _ ((Below.refl _ _).alloc (Nat.le_refl _) _)).mono ?_
  rintro e w1 ⟨rfl, hb⟩
  have HB := Lib.hid (Below.boxed _ _ hb); clear hb
  go_wp2_with fail
  go_ret
  exact ⟨rfl, HB.out⟩

/-! ### Rows of words -/
def words (ws : List (List UInt8)) : Array Value := (ws.map fun x => Value.string (str x)).toArray
/-- A row of words in a block of its own. -/
def Words (w : World) (v : Value) (ws : List (List UInt8)) : Prop := ∃ g, v = .slice (some ⟨g, 0, none⟩) ws.length ws.length ∧ Sits w g 9 (words ws)
theorem words_at {ws : List (List UInt8)} {j : Nat} {x : List UInt8} (h : ws[j]? = some x) : (words ws)[j]? = some (.string (str x)) := by
  simp [words, h]
def joined (ws : List (List UInt8)) : List UInt8 := Lib.join ws [44, 32]
theorem str_list (x : List UInt8) : (str x).data.toList = x := by simp [str]
theorem map_str (ws : List (List UInt8)) : (ws.map str).map (·.data.toList) = ws := by
  rw [List.map_map]
  conv => rhs; rw [← List.map_id ws]
  exact List.map_congr_left fun x _ => str_list x
theorem join_any (ws : List (List UInt8)) (v : Value) (w : World) (hv : Words w v ws) (hn : ws.length ≤ 100) (hl : (joined ws).length ≤ 1000000) :
    Calls Tryz.prog 116 #[v, .string (str [44, 32])] w fun e w' => Made (.returned (.string (str (joined ws)))) w e w' := by
  obtain ⟨g, rfl, hs⟩ := hv
  have h := Tryz.strings_Join g 0 ws.length (ws.map str) (str [44, 32]) w (fun j x hx => by
    rw [List.getElem?_map] at hx
    obtain ⟨y, hy, rfl⟩ := Option.map_eq_some_iff.1 hx
    rw [Nat.zero_add, hs.cell, words_at hy]) hs.lt (by rw [List.length_map]; omega) (by rw [List.length_map]; omega) (by rw [map_str, str_list]; unfold joined at hl; omega)
  rw [List.length_map, map_str, str_list] at h
  exact h
def callTxt (name : List UInt8) (ws : List (List UInt8)) : List UInt8 := name ++ [40] ++ joined ws ++ [41, 59]
theorem call_any (name : List UInt8) (hname : name.length ≤ 100) (ws : List (List UInt8)) (v : Value) (w : World) (hv : Words w v ws) (hn : ws.length ≤ 100) (hl : (joined ws).length ≤ 1000000) :
    Calls Tryz.prog 67 #[.string (str name), v] w fun e w' => Made (.returned (.string (str (callTxt name ws)))) w e w' := by
  have HJ := Lib.hid (join_any ws v w hv hn hl)
  obtain ⟨g, rfl, hs⟩ := hv
  have h1 : ∀ W, (Op.stringOp .add (str name) ⟨#[40]⟩).run Tryz.prog W = .ok (.string (str (name ++ [40]))) W := fun W => add_str name [40] (by simp; omega) W
  have h2 : ∀ W, (Op.stringOp .add (str (name ++ [40])) (str (joined ws))).run Tryz.prog W = .ok (.string (str (name ++ [40] ++ joined ws))) W := fun W => add_str _ _ (by simp; omega) W
  have h3 : ∀ W, (Op.stringOp .add (str (name ++ [40] ++ joined ws)) ⟨#[41, 59]⟩).run Tryz.prog W = .ok (.string (str (callTxt name ws))) W := fun W => add_str (name ++ [40] ++ joined ws) [41, 59] (by simp; omega) W
  generalize callTxt name ws = cw at *
  generalize name ++ [40] ++ joined ws = n2 at h2 h3
  generalize name ++ [40] = n1 at h1 h2
  generalize joined ws = jw at *
  generalize ws.length = nw at *
  clear hs hn
  go_enter Tryz.func67, Tryz.ntmps67
  go_wp2_with fail
  refine HJ.out.mono ?_
  rintro e w1 ⟨rfl, hb⟩
  have HB := Lib.hid hb; clear hb
  go_wp2_with fail
  go_ret
  exact ⟨rfl, HB.out⟩

/-! ### What a builder's writing leaves as it was -/
structure Moved (b : Nat) (w w' : World) : Prop where
  kept : OthersKept tU (some b) w w'
  size : w.heap.size ≤ w'.heap.size
/-- The builder in block b holds l; nothing below w0's size has turned. -/
structure Bld (w0 : World) (b : Nat) (l : List UInt8) (w : World) : Prop where
  is : IsBuilderF tB tU w0.heap.size b (byteCells l) w
  low : Below w0.heap.size w0 w
section
variable {w0 w w' w'' : World} {b g : Nat} {t : TypeId} {cs : Array Value} {l : List UInt8}
theorem Moved.refl (b : Nat) (w : World) : Moved b w w := ⟨OthersKept.refl _ _ _, Nat.le_refl _⟩
theorem Moved.trans (h : Moved b w w') (k : Moved b w' w'') : Moved b w w'' := ⟨h.kept.trans k.kept, Nat.le_trans h.size k.size⟩
theorem Moved.below (h : Below w.heap.size w w') : Moved b w w' := ⟨fun k o hk _ _ => by
  have hlt : k < w.heap.size := by
    rcases Nat.lt_or_ge k w.heap.size with h | h
    · exact h
    · rw [Array.getElem?_eq_none h] at hk; cases hk
  rw [h.block k hlt]; exact hk, h.size⟩
theorem Bld.typed (h : Bld w0 b l w) : ∃ cs, Sits w b tB cs := by
  rcases h.is with h | h <;> (obtain ⟨_, v, hb, _⟩ := h; exact ⟨_, hb⟩)
theorem Sits.moved (h : Sits w g t cs) (k : Moved b w w') (ht : t ≠ tU) (hg : g ≠ b) : Sits w' g t cs :=
  k.kept g _ h (fun e => hg (Option.some.inj e)) (fun c fz e => ht (by injection e))
theorem Bld.far (h : Bld w0 b l w) (hs : Sits w g t cs) (ht : t ≠ tB) : g ≠ b := by
  obtain ⟨cs', hb⟩ := h.typed
  exact hs.differ hb ht
theorem Bld.grown (h : Bld w0 b l w) (hb : Below w.heap.size w w') : Bld w0 b l w' := by
  have key : ∀ p, BuilderAtF tB tU w0.heap.size b p (byteCells l) w → BuilderAtF tB tU w0.heap.size b p (byteCells l) w' := fun p hp => by
    have hlt := hp.lt
    obtain ⟨hB, v, hbk, hown, hne⟩ := hp
    exact ⟨hB, v, (hb.block b hlt).trans hbk, hown.kept (row := none) ⟨hb.os, hb.tape, hb.output, hb.size, fun k hk _ => hb.block k hk⟩ (by cases hv : v.ownBlock <;> simp), hne⟩
  exact ⟨h.is.elim (fun x => .inl (key _ x)) (fun x => .inr (key _ x)), h.low.trans (hb.mono h.low.size)⟩
theorem Bld.drew (h : Bld w0 b l w) : Bld w0 b l w.drew := h.grown (Below.refl _ _).drew
theorem Bld.of_wrote {x : List UInt8} (h : Bld w0 b l w) (k : Wrote w0.heap.size b (byteCells l ++ byteCells x) w w') : Bld w0 b (l ++ x) w' ∧ Moved b w w' :=
  ⟨⟨.inr (by rw [byteCells_append]; exact k.is), h.low.trans k.low⟩, k.kept, k.size⟩
end
theorem wstr (w0 : World) (b : Nat) (l x : List UInt8) (w : World) (h : Bld w0 b l w) (hlen : l.length + x.length ≤ 140737488355328) :
    Calls Tryz.prog 63 #[.pointer (some ⟨b, 0, none⟩), .string (str x)] w fun e w' => ∃ z, e = .returned (.tuple #[z, .nilIface]) ∧ Bld w0 b (l ++ x) w' ∧ Moved b w w' := by
  refine (wstring_any w0.heap.size b (byteCells l) (str x) w h.is (by rw [byteCells_length]; exact hlen) h.low.size).mono ?_
  rintro e w' ⟨rfl, hw⟩
  rw [strCells_eq, str_list] at hw
  exact ⟨_, rfl, h.of_wrote hw⟩
theorem wline (w0 : World) (b : Nat) (l : List UInt8) (w : World) (h : Bld w0 b l w) (hlen : l.length + 1 ≤ 140737488355328) :
    Calls Tryz.prog 64 #[.pointer (some ⟨b, 0, none⟩), .int .u8 10] w fun e w' => e = .returned .nilIface ∧ Bld w0 b (l ++ [10]) w' ∧ Moved b w w' := by
  refine (wbyte_any w0.heap.size b (byteCells l) 10 w h.is (by rw [byteCells_length]; exact hlen) h.low.size).mono ?_
  rintro e w' ⟨rfl, hw⟩
  exact ⟨rfl, h.of_wrote (x := [10]) hw⟩

/-! ### A line -/
/-- A call that puts lines: its two boxes. -/
structure Put (b d : Nat) (v : Value) (w : World) : Prop where
  fn : ∃ gb gm, v = .func (.func 62) #[] #[.pointer (some ⟨gb, 0, none⟩), .pointer (some ⟨gm, 0, none⟩)] ∧ Sits w gb 76 #[.pointer (some ⟨b, 0, none⟩)] ∧ Sits w gm 9 #[.string (str (indent d))]
theorem Put.moved {w0 w w' : World} {b d : Nat} {v : Value} {l : List UInt8} (h : Put b d v w) (hB : Bld w0 b l w) (k : Moved b w w') : Put b d v w' := by
  obtain ⟨gb, gm, hv, h1, h2⟩ := h.fn
  exact ⟨gb, gm, hv, Sits.moved h1 k (by decide) (hB.far h1 (by decide)), Sits.moved h2 k (by decide) (hB.far h2 (by decide))⟩
theorem indent_len (d : Nat) : (indent d).length = 2 * d := by simp [indent]
theorem indent_repeat (d : Nat) : Lib.repeatL [32, 32] d = indent d := by
  induction d with
  | zero => rfl
  | succ d ih =>
    show [32, 32] ++ Lib.repeatL [32, 32] d = _
    rw [ih]
    unfold indent
    rw [show 2 * (d + 1) = 2 + 2 * d by omega, ← List.replicate_append_replicate]; rfl
set_option maxRecDepth 100000 in
theorem linesOf_any (b d : Nat) (hd : d ≤ 100) (w : World) : Calls Tryz.prog 30 #[.pointer (some ⟨b, 0, none⟩), .int .i64 (d : Nat)] w fun e w' => ∃ v, e = .returned v ∧ Put b d v w' ∧ Below w.heap.size w w' := by
  have HR := Lib.hid (fun W => (show Calls _ _ #[.string ⟨#[32, 32]⟩, .int .i64 (d : Nat)] W fun e w' => Made (.returned (.string (str (indent d)))) W e w' from by
    have h := Tryz.strings_Repeat (str [32, 32]) d W (by omega) (by simp [str, ByteArray.size]; omega)
    rw [str_list, indent_repeat] at h
    exact h))
  have i1 : (d : Int) ≤ 100 := by omega
  clear hd
  go_enter Tryz.func30, Tryz.ntmps30
  go_wp2_with fail
  refine (HR.out _).mono ?_
  rintro e w1 ⟨rfl, hb⟩
  have hlt : w.heap.size < w1.heap.size := by have := hb.size; simp at this; omega
  have S1 : Sits w1 w.heap.size 76 #[.pointer (some ⟨b, 0, none⟩)] := (Sits.new w _ _).below hb (by simp)
  have HB := Lib.hid (Below.boxed _ _ hb)
  have HS := Lib.hid S1
  clear hb S1
  go_wp2_with fail
  go_ret
  refine ⟨_, rfl, ⟨w.heap.size, w1.heap.size, rfl, HS.out.alloc _, Sits.new _ _ _⟩, HB.out.alloc HB.out.size _⟩
set_option maxRecDepth 100000 in
set_option maxHeartbeats 1000000 in
theorem line1_any (w0 : World) (b d : Nat) (l : List UInt8) (ws : List (List UInt8)) (gb gm : Nat) (vw : Value) (w : World) (hB : Bld w0 b l w) (h1 : Sits w gb 76 #[.pointer (some ⟨b, 0, none⟩)]) (h2 : Sits w gm 9 #[.string (str (indent d))])
    (hw : Words w vw ws) (hn : ws.length ≤ 100) (hlen : l.length + (2 * d + ws.flatten.length + 1) ≤ 140737488355328) :
    Calls Tryz.prog 62 #[vw, .pointer (some ⟨gb, 0, none⟩), .pointer (some ⟨gm, 0, none⟩)] w fun e w' => e = .returned (.tuple #[]) ∧ Bld w0 b (l ++ line d ws.flatten) w' ∧ Moved b w w' := by
  obtain ⟨g, rfl, hs⟩ := hw
  have il := indent_len d
  have n1 := hB.far h1 (by decide)
  have n2 := hB.far h2 (by decide)
  have n3 := hB.far hs (by decide)
  have c1 := h1.cell 0
  have c2 := h2.cell 0
  have HW1 := Lib.hid (wstr w0 b l (indent d) w hB (by omega))
  have i1 : (ws.length : Int) ≤ 100 := by omega
  have HM := Lib.hid h1
  have HM2 := Lib.hid hs
  have HLEN := Lib.hid hlen
  have HIL := Lib.hid il
  clear h1 h2 hs hB hlen il
  go_enter Tryz.func62, Tryz.ntmps62
  go_wp2_with fail
  refine HW1.out.mono ?_
  rintro e w1 ⟨z, rfl, hB1, hM1⟩
  have HB1 := Lib.hid hB1
  have HM1 := Lib.hid hM1
  have S1 := Lib.hid (Sits.moved HM.out hM1 (by decide) n1)
  have S2 := Lib.hid (Sits.moved HM2.out hM1 (by decide) n3)
  clear hB1 hM1 c1 c2
  go_wp2_with fail
  go_loopg [11] ws.length (fun g v11 wx => ∃ k, k ≤ ws.length ∧ g = ws.length - k ∧ v11 = .int .i64 (k : Nat) ∧ Hid (Bld w0 b (l ++ indent d ++ (ws.take k).flatten) wx) ∧ Hid (Moved b w1 wx))
  case atStart => exact ⟨0, by omega, by omega, rfl, Lib.hid (by simpa using HB1.out), Lib.hid (Moved.refl _ _)⟩
  case round =>
    obtain ⟨k, hk, rfl, rfl, HBx, HMx⟩ := hrel
    have T1 := Sits.moved S1.out HMx.out (by decide) n1
    have T2 := Sits.moved S2.out HMx.out (by decide) n3
    have c1 := T1.cell 0
    have l1 := T1.lt
    have l2 := T2.lt
    by_cases hlt : k < ws.length
    · have i2 : (k : Int) < (ws.length : Int) := by omega
      have hx : ws[k]? = some ws[k] := List.getElem?_eq_getElem hlt
      have c2 : wr.cell? ⟨g, k, none⟩ = some (.string (str ws[k])) := by rw [T2.cell]; exact words_at hx
      have HT := Lib.hid (show (ws.take (k + 1)).flatten = (ws.take k).flatten ++ ws[k] by rw [List.take_succ_eq_append_getElem hlt, List.flatten_append]; simp)
      have hfl : (ws.take (k + 1)).flatten.length ≤ ws.flatten.length := by
        have := congrArg (fun l => l.flatten.length) (List.take_append_drop (k + 1) ws)
        simp only [List.flatten_append, List.length_append] at this
        omega
      have HWx := Lib.hid (wstr w0 b _ ws[k] wr HBx.out (by
        have := HLEN.out; have := HIL.out
        rw [HT.out, List.length_append] at hfl
        simp only [List.length_append]; omega))
      clear T1 T2 hx hfl
      generalize ws[k] = x at c2 HT HWx
      go_wp2_with fail
      refine HWx.out.mono ?_
      rintro e w2 ⟨z, rfl, hB2, hM2⟩
      have HB2 := Lib.hid hB2
      have HM2' := Lib.hid (HMx.out.trans hM2)
      clear hB2 hM2
      go_wp2_with fail
      go_roundg (ws.length - (k + 1))
      case measure => omega
      case rel => exact ⟨k + 1, by omega, rfl, by go_num, Lib.hid (by rw [HT.out, ← List.append_assoc]; exact HB2.out), HM2'⟩
    · obtain rfl : k = ws.length := by omega
      have HWx := Lib.hid (wline w0 b _ wr HBx.out (by
        have := HLEN.out; have := HIL.out
        rw [List.take_of_length_le (Nat.le_refl _)]
        simp only [List.length_append]; omega))
      clear T1 T2
      go_wp2_with fail
      refine HWx.out.mono ?_
      rintro e w2 ⟨rfl, hB2, hM2⟩
      have HB2 := Lib.hid hB2
      have HM2' := Lib.hid (HM1.out.trans (HMx.out.trans hM2))
      clear hB2 hM2
      go_wp2_with fail
      go_end0
      exact ⟨rfl, by
        have h := HB2.out
        rw [List.take_of_length_le (Nat.le_refl _)] at h
        simpa [line] using h, HM2'.out⟩
end Go.Proofs.YtpdpofoicdijlaaGreatDoor.Prog
