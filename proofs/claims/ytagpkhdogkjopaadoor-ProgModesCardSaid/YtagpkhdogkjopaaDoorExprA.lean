/- Layer 3 (expr): the contracts of the leaves: numerals, registers, letters, strengths, items. -/
import Derived.Test.YtagpkhdogkjopaaDoorMem
import Derived.Test.YtagpkhdogkjopaaDoorExprS
import Derived.Test.YtagpkhdogkjopaaDoorNumC
import Derived.Test.YtagpkhdogkjopaaDoorShelf
import Derived.Lib.ItoaMem
import Derived.Lib.ItoaLen
import Derived.Lib.AppendIntMem
namespace Go.Proofs.YtagpkhdogkjopaaDoor.Expr
open Go.RowKit Go.Proofs.YtagpkhdogkjopaaDoor.Mem Go.Lib

def str (l : List UInt8) : ByteArray := ⟨l.toArray⟩

theorem itoa_any (i : Nat) (hi : i < 100) (w : World) :
    Calls Tryd.prog 56 #[.int .i64 i] w fun e w' => e = .returned (.string (str (dec i))) ∧ w = w' :=
  (Tryd.strconv_Itoa_small i hi w).mono fun _ _ h => ⟨h.1, h.2.symm⟩

theorem add_str {P : Program} (x y : List UInt8) (h : x.length + y.length ≤ 9223372036854775807) (w : World) : (Op.stringOp .add (str x) (str y)).run P w = .ok (.string (str (x ++ y))) w := by
  rw [run_string_add_sum w _ _ (by simpa [str, ByteArray.size] using h)]
  congr 2
theorem dec_len (n : Nat) (h : n < 18446744073709551616) : (dec n).length ≤ 20 := by
  unfold dec; rw [Lib.decDigits_length]; exact Lib.nDigits_le20 n h

theorem register_any (i : Nat) (hi : i < 8) (w : World) :
    Calls Tryd.prog 82 #[.int .u8 i] w fun e w' => e = .returned (.string (str (114 :: dec i))) ∧ w = w' := by
  have hl := dec_len i (by omega)
  have h1 : ∀ W, (Op.stringOp .add ⟨#[114]⟩ (str (dec i))).run Tryd.prog W = .ok (.string (str (114 :: dec i))) W := fun W => add_str [114] (dec i) (by simp; omega) W
  go_enter Tryd.func82, Tryd.ntmps82
  go_wp2_with (go_at_call 56; refine (itoa_any _ (by omega) _).mono ?_; rintro e w' ⟨rfl, rfl⟩)
  go_ret
  exact ⟨rfl, rfl⟩

/-- The library's table of powers of ten, as its own text lays it. -/
def PowAt (w : World) : Prop := TabIs Tryd.prog w "internal/strconv.uint64pow10" .u64 pow10Tab
theorem PowAt.below {w w' : World} (h : PowAt w) (hb : Below w.heap.size w w') : PowAt w' := tabBelow_of_tabIs h w' hb
set_option maxRecDepth 100000 in
set_option maxHeartbeats 3200000 in
theorem format_any (u : Nat) (hu64 : u < 18446744073709551616) (w : World) (hP : PowAt w) :
    Calls Tryd.prog 34 #[.int .u64 u, .int .i64 10] w fun e w' => Made (.returned (.string (str (dec u)))) w e w' := by
  by_cases hu : u < 100
  · have iu : (u : Int) < 100 := by omega
    go_enter Tryd.func34, Tryd.ntmps34
    go_wp2_with (go_at_call 52; refine (Tryd.internal_strconv_small u hu _).mono ?_; rintro e w' ⟨rfl, rfl⟩)
    go_ret
    exact ⟨rfl, Below.refl _ _⟩
  · have hu1 : 1 ≤ u := by omega
    have hnd20 : nDigits u ≤ 20 := nDigits_le20 u hu64
    have hal : Tryd.prog.arrayLen 98 = 24 := by kernel_rfl
    have hsl : ∀ W, (Instr.sliceAt 98 (.pointer (some ⟨w.heap.size, 0, none⟩)) none (some (.int .i64 (nDigits u : Int))) none).run Tryd.prog W = .ok (.slice (some ⟨w.heap.size, 0, none⟩) (nDigits u) 24) W := fun W => by
      rw [run_sliceAt_array_h W 98 ⟨w.heap.size, 0, none⟩ (by kernel_rfl) .i64 (nDigits u : Int) (by omega) (by rw [hal]; omega)]
      go_simp
    have hH0 := holds_zero0 w 98 (nDigits u) (by omega)
    have hfmt := Tryd.internal_strconv_formatBase10 w.heap.size 0 24 u (Array.replicate (nDigits u) 0) (w.alloc (.cells zeros24 98)) hH0 (by rw [Array.size_replicate]; exact lt_pow_nDigits u) hu64 (by rw [Array.size_replicate]; omega)
    rw [Array.size_replicate] at hfmt
    have HH0 := Lib.hid hH0
    have HF := Lib.hid hfmt
    have iu : (100 : Int) ≤ (u : Int) := by omega
    clear hH0 hal hfmt
    go_enter Tryd.func34, Tryd.ntmps34
    go_wp2_with (go_at_call 53; refine (Tryd.internal_strconv_numDigits u hu1 hu64 _ (tabIs_alloc hP _)).mono ?_; rintro e w' ⟨rfl, rfl⟩)
    go_at_call 54
    refine HF.out.mono ?_
    rintro e w' ⟨rfl, k, v', dk, rfl, hF⟩
    have hcv : (convert 22 9 (.slice (some ⟨w.heap.size, 0, none⟩) (nDigits u) 24)).run Tryd.prog ((Sort.putRow (fun (b : UInt8) => Value.int .u8 (b.toNat : Int)) (w.alloc (.cells zeros24 98)) w.heap.size 0 dk).drewN k) = .ok (.string (str (dec u))) ((Sort.putRow (fun (b : UInt8) => Value.int .u8 (b.toNat : Int)) (w.alloc (.cells zeros24 98)) w.heap.size 0 dk).drewN k) := by
      have h := run_convert_bytes_back (P := Tryd.prog) ((Sort.putRow (fun (b : UInt8) => Value.int .u8 (b.toNat : Int)) (w.alloc (.cells zeros24 98)) w.heap.size 0 dk).drewN k) 22 9 5 ⟨w.heap.size, 0, none⟩ 24 (decDigits u) Tryd.underlying22 Tryd.underlying5 Tryd.underlying9 (fun j hj => by
        rw [row_is_numeral hF j hj, add_plain, World.cell?_drewN]
        exact Sort.cell?_putRow (fun (b : UInt8) => Value.int .u8 (b.toNat : Int)) _ w.heap.size 0 _ dk HH0.out (by rw [hF.size, Array.size_replicate]) j (by rw [hF.size]; rw [decDigits_length] at hj; exact hj))
      rw [decDigits_length] at h
      exact h
    have HB : Hid (Below w.heap.size w ((Sort.putRow (fun (b : UInt8) => Value.int .u8 (b.toNat : Int)) (w.alloc (.cells zeros24 98)) w.heap.size 0 dk).drewN k)) := by
      obtain ⟨os, eo⟩ := fin_at w (.cells zeros24 98) dk k 0
      exact Lib.hid (by rw [eo]; exact below_grow w.heap.size w (Nat.le_refl _) k os)
    clear HF
    generalize (Sort.putRow (fun (b : UInt8) => Value.int .u8 (b.toNat : Int)) (w.alloc (.cells zeros24 98)) w.heap.size 0 dk).drewN k = W at hcv HB ⊢
    go_wp2_with fail
    go_ret
    exact ⟨rfl, HB.out⟩
theorem formatUint_any (u : Nat) (hu64 : u < 18446744073709551616) (w : World) (hP : PowAt w) :
    Calls Tryd.prog 20 #[.int .u64 u, .int .i64 10] w fun e w' => Made (.returned (.string (str (dec u)))) w e w' := by
  go_enter Tryd.func20, Tryd.ntmps20
  go_wp2_with fail
  refine (format_any u hu64 _ hP).mono ?_
  rintro e w1 ⟨rfl, hb⟩
  go_wp2_with fail
  go_ret
  exact ⟨rfl, hb⟩

/-- The tables that texts are made by. -/
def Tabs (w : World) : Prop := Num.TextsAt w ∧ PowAt w
theorem Tabs.below {w w' : World} (h : Tabs w) (hb : Below w.heap.size w w') : Tabs w' := ⟨h.1.below hb, h.2.below hb⟩

def exprCells (a : It) (lv rv : Value) : Array Value := #[.int .u8 a.kind, .int .u8 a.op, .int .u64 a.n, .int .u8 a.t, .int .u8 a.i, .int .u8 a.x, lv, rv]
/-- A leaf's item. -/
def leafIt : Ex → It
  | .num n => ⟨0, 0, n, 0, 0, 0⟩
  | .reg i => ⟨1, 0, 0, 0, i, 0⟩
  | .of t i => ⟨2, 0, 0, t, i, 0⟩
  | .loc x => ⟨3, 0, 0, 0, 0, x⟩
  | .one op _ => ⟨4, op, 0, 0, 0, 0⟩
  | .two op _ _ => ⟨5, op, 0, 0, 0, 0⟩
def leafVal (e : Ex) : Value := .agg (exprCells (leafIt e) (.pointer none) (.pointer none))

theorem strength_any (op : Nat) (w : World) :
    Calls Tryd.prog 63 #[.int .u8 op] w fun e w' => e = .returned (.int .i64 (strongOp op)) ∧ w = w' := by
  by_cases h1 : 1 ≤ op ∧ op ≤ 4
  · have a1 : (1 : Int) ≤ (op : Int) := by omega
    have a2 : (op : Int) ≤ 4 := by omega
    have e : strongOp op = 1 := by unfold strongOp; rw [if_pos h1]
    rw [e]; clear e
    go_enter Tryd.func63, Tryd.ntmps63
    go_wp2
    go_ret
    exact ⟨rfl, rfl⟩
  by_cases h2 : 5 ≤ op ∧ op ≤ 8
  · have a1 : (5 : Int) ≤ (op : Int) := by omega
    have a2 : (op : Int) ≤ 8 := by omega
    have e : strongOp op = 2 := by unfold strongOp; rw [if_neg h1, if_pos h2]
    rw [e]; clear e
    go_enter Tryd.func63, Tryd.ntmps63
    go_wp2
    go_ret
    exact ⟨rfl, rfl⟩
  by_cases h3 : 9 ≤ op ∧ op ≤ 12
  · have a1 : (9 : Int) ≤ (op : Int) := by omega
    have a2 : (op : Int) ≤ 12 := by omega
    have e : strongOp op = 3 := by unfold strongOp; rw [if_neg h1, if_neg h2, if_pos h3]
    rw [e]; clear e
    go_enter Tryd.func63, Tryd.ntmps63
    go_wp2
    go_ret
    exact ⟨rfl, rfl⟩
  by_cases h13 : op = 13
  · subst h13
    go_enter Tryd.func63, Tryd.ntmps63
    go_wp2
    go_ret
    exact ⟨rfl, rfl⟩
  by_cases h14 : op = 14
  · subst h14
    go_enter Tryd.func63, Tryd.ntmps63
    go_wp2
    go_ret
    exact ⟨rfl, rfl⟩
  have e : strongOp op = 0 := by unfold strongOp; rw [if_neg h1, if_neg h2, if_neg h3, if_neg (by omega)]
  rw [e]; clear e
  have e1 : ((op : Int) == 13) = false := beq_eq_false_iff_ne.2 (by omega)
  have e2 : ((op : Int) == 14) = false := beq_eq_false_iff_ne.2 (by omega)
  by_cases hz : op = 0
  · subst hz
    go_enter Tryd.func63, Tryd.ntmps63
    go_wp2
    go_ret
    exact ⟨rfl, rfl⟩
  · have a1 : (14 : Int) < (op : Int) := by omega
    go_enter Tryd.func63, Tryd.ntmps63
    go_wp2
    go_ret
    exact ⟨rfl, rfl⟩

theorem letters_num (n : Nat) (hn : n < 18446744073709551616) (w : World) (hT : Tabs w) :
    Calls Tryd.prog 61 #[leafVal (.num n)] w fun e' w' => Made (.returned (.string (str (dec n)))) w e' w' := by
  have hP := (Tabs.below hT ((Below.refl _ w).alloc (Nat.le_refl _) (.cells #[.int .u8 0, .int .u8 0, .int .u64 n, .int .u8 0, .int .u8 0, .int .u8 0, .pointer none, .pointer none] 29))).2
  show Calls _ _ #[.agg #[.int .u8 0, .int .u8 0, .int .u64 n, .int .u8 0, .int .u8 0, .int .u8 0, .pointer none, .pointer none]] _ _
  go_enter Tryd.func61, Tryd.ntmps61
  go_wp2_with fail
  go_at_call 20
  refine (formatUint_any n hn _ hP).mono ?_
  rintro e w1 ⟨rfl, hb⟩
  go_wp2_with fail
  go_ret
  exact ⟨rfl, Below.boxed _ _ hb⟩
theorem letters_reg (i : Nat) (hi : i < 8) (w : World) :
    Calls Tryd.prog 61 #[leafVal (.reg i)] w fun e' w' => Made (.returned (.string (str (114 :: dec i)))) w e' w' := by
  show Calls _ _ #[.agg #[.int .u8 1, .int .u8 0, .int .u64 0, .int .u8 0, .int .u8 i, .int .u8 0, .pointer none, .pointer none]] _ _
  go_enter Tryd.func61, Tryd.ntmps61
  go_wp2_with (go_at_call 82; refine (register_any _ hi _).mono ?_; rintro e w' ⟨rfl, rfl⟩)
  go_ret
  exact ⟨rfl, (Below.refl _ _).alloc (Nat.le_refl _) _⟩
theorem letters_of (t i : Nat) (ht : t < 4) (hi : i < 8) (w : World) :
    Calls Tryd.prog 61 #[leafVal (.of t i)] w fun e' w' => Made (.returned (.string (str (dec t ++ 58 :: 114 :: dec i)))) w e' w' := by
  have l1 := dec_len t (by omega)
  have l2 := dec_len i (by omega)
  have h1 : ∀ W, (Op.stringOp .add (str (dec t)) ⟨#[58]⟩).run Tryd.prog W = .ok (.string (str (dec t ++ [58]))) W := fun W => add_str (dec t) [58] (by simp; omega) W
  have h2 : ∀ W, (Op.stringOp .add (str (dec t ++ [58])) (str (114 :: dec i))).run Tryd.prog W = .ok (.string (str (dec t ++ [58] ++ 114 :: dec i))) W := fun W => add_str _ _ (by simp; omega) W
  clear l1 l2
  have hw : IntKind.i64.wrap (t : Int) = t := IntWalk.i64_in _ (by omega)
  show Calls _ _ #[.agg #[.int .u8 2, .int .u8 0, .int .u64 0, .int .u8 t, .int .u8 i, .int .u8 0, .pointer none, .pointer none]] _ _
  go_enter Tryd.func61, Tryd.ntmps61
  go_wp2_with fail
  go_quiet ((first | (go_at_call 56; exact quiet_eq (itoa_any t (Nat.lt_trans ht (by decide)) _)) | (go_at_call 82; exact quiet_eq (register_any i hi _))))
  go_wp2
  go_ret
  exact ⟨rfl, drewN_below ((Below.refl _ _).alloc (Nat.le_refl _) _) _⟩
theorem encode_letter (x : Nat) (hx : 97 ≤ x ∧ x ≤ 122) : Utf8.encode x = str [x.toUInt8] := by
  have h : ∀ y : Fin 26, Utf8.encode ((97 + y.val : Nat) : Int) = str [(97 + y.val).toUInt8] := by decide +kernel
  have := h ⟨x - 97, by omega⟩
  simp only at this
  rw [show 97 + (x - 97) = x by omega] at this
  exact this
theorem letters_loc (x : Nat) (hx : 97 ≤ x ∧ x ≤ 122) (w : World) :
    Calls Tryd.prog 61 #[leafVal (.loc x)] w fun e' w' => Made (.returned (.string (str [x.toUInt8]))) w e' w' := by
  have HE := Lib.hid (encode_letter x hx)
  show Calls _ _ #[.agg #[.int .u8 3, .int .u8 0, .int .u64 0, .int .u8 0, .int .u8 0, .int .u8 x, .pointer none, .pointer none]] _ _
  go_enter Tryd.func61, Tryd.ntmps61
  go_wp2_with fail
  go_ret
  exact ⟨ret_str HE.out, (Below.refl _ _).alloc (Nat.le_refl _) _⟩
theorem letters_any (e : Ex) (hl : e.isLeaf = true) (ho : e.ok) (w : World) (hT : Tabs w) :
    Calls Tryd.prog 61 #[leafVal e] w fun e' w' => Made (.returned (.string (str e.text))) w e' w' := by
  cases e with
  | one op a => cases hl
  | two op a b => cases hl
  | num n => exact letters_num n ho w hT
  | reg i => exact letters_reg i ho w
  | of t i => exact letters_of t i ho.1 ho.2 w
  | loc x => exact letters_loc x ⟨ho.1, ho.2.1⟩ w

/-- A part as it is written, where nothing weaker than n may stand. -/
theorem atLeast_any (l : List UInt8) (k n : Nat) (hl : l.length ≤ 1000000) (w : World) :
    Calls Tryd.prog 65 #[.agg #[.string (str l), .int .i64 k], .int .i64 n] w fun e' w' => Made (.returned (.string (str (atLeast n k l)))) w e' w' := by
  by_cases h : k < n
  · have e : atLeast n k l = 40 :: (l ++ [41]) := by unfold atLeast; rw [if_pos h]
    rw [e]; clear e
    have h1 : ∀ W, (Op.stringOp .add ⟨#[40]⟩ (str l)).run Tryd.prog W = .ok (.string (str (40 :: l))) W := fun W => add_str [40] l (by simp; omega) W
    have h2 : ∀ W, (Op.stringOp .add (str (40 :: l)) ⟨#[41]⟩).run Tryd.prog W = .ok (.string (str (40 :: (l ++ [41])))) W := fun W => add_str (40 :: l) [41] (by simp; omega) W
    have i1 : (k : Int) < (n : Int) := by omega
    clear hl
    go_enter Tryd.func65, Tryd.ntmps65
    go_wp2_with fail
    go_ret
    exact ⟨rfl, (Below.refl _ _).alloc (Nat.le_refl _) _⟩
  · have e : atLeast n k l = l := by unfold atLeast; rw [if_neg h]
    rw [e]; clear e
    have i1 : (n : Int) ≤ (k : Int) := by omega
    go_enter Tryd.func65, Tryd.ntmps65
    go_wp2_with fail
    go_ret
    exact ⟨rfl, (Below.refl _ _).alloc (Nat.le_refl _) _⟩

/-! ### The document's own leaves -/
def itVal (a : It) : Value := .agg #[.int .u8 a.kind, .int .u8 a.op, .int .u64 a.n, .int .u8 a.t, .int .u8 a.i, .int .u8 a.x]
theorem sidesF_nat (op : Nat) : Num.sidesF (op : Int) = (sides op : Nat) := by
  unfold Num.sidesF sides
  by_cases h : 1 ≤ op ∧ op ≤ 12
  · rw [if_pos h, if_pos (by omega)]; rfl
  · rw [if_neg h, if_neg (by omega)]
    by_cases h2 : op = 13 ∨ op = 14
    · rw [if_pos h2, if_pos (by omega)]; rfl
    · rw [if_neg h2, if_neg (by omega)]; rfl
theorem sides_nat (op : Nat) (w : World) : Calls Tryd.prog 64 #[.int .u8 op] w fun e w' => e = .returned (.int .i64 (sides op : Nat)) ∧ w = w' := by
  rw [← sidesF_nat]; exact Num.sides_any op w
def partsI (a : It) : Int := match partsF a with
  | some n => n
  | none => -1
theorem partsI_leaf {a : It} (h : partsF a = if leafOk a then some 0 else none) : partsI a = if leafOk a then 0 else -1 := by
  unfold partsI; rw [h]; split <;> split <;> simp_all
/-- The strength of an item, as the document has it. -/
def strongIt (a : It) : Nat := if a.kind < 4 then 5 else if a.kind = 4 then 4 else if a.op < 5 then 1 else if a.op < 9 then 2 else 3
theorem digit_cut (n : Nat) (h : n < 10) : ByteArray.extract ⟨#[48, 49, 50, 51, 52, 53, 54, 55, 56, 57]⟩ n (n + 1) = str (dec n) := by
  have e : dec n = [UInt8.ofNat (48 + n)] := by unfold dec; rw [decDigits, dif_pos h]
  rw [e]
  have := (show ∀ y : Fin 10, ByteArray.extract ⟨#[48, 49, 50, 51, 52, 53, 54, 55, 56, 57]⟩ y.val (y.val + 1) = str [UInt8.ofNat (48 + y.val)] by decide +kernel) ⟨n, h⟩
  exact this
theorem dec_more (n : Nat) (h : ¬ n < 10) : dec (n / 10) ++ dec (n % 10) = dec n := by
  unfold dec
  rw [decDigits.eq_def n, dif_neg h, decDigits.eq_def (n % 10), dif_pos (by omega)]
end Go.Proofs.YtagpkhdogkjopaaDoor.Expr
