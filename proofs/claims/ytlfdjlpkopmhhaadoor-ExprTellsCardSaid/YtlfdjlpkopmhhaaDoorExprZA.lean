/- Layer 3 (expr): ExprTells where a row is too long, or spells none that may be. -/
import Derived.Test.YtlfdjlpkopmhhaaDoorExprX
import Derived.Test.YtlfdjlpkopmhhaaDoorExprN
import Derived.Test.YtlfdjlpkopmhhaaDoorExprR
namespace Go.Proofs.YtlfdjlpkopmhhaaDoor.Expr
open Go.RowKit Go.Proofs.YtlfdjlpkopmhhaaDoor.Mem Go.Lib

theorem of_tree (l : List It) (v : Value) (w : World) (hv : Row w v l) :
    Calls Tryd.prog 18 #[v, .int .i64 0, .int .i64 20] w fun e' w' => ∃ p, e' = .returned (.tuple #[.pointer p, .int .i64 ((ofF l 20 0).2 : Nat)]) ∧ Tree w' (ofF l 20 0).1 (.pointer p) ∧ Below w.heap.size w w' := by
  refine Calls.mono (show Calls _ _ #[v, .int .i64 0, .int .i64 20] _ _ from of_any l 20 0 v w (by omega) hv) ?_
  rintro e' w' ⟨p, rfl, ht, hb⟩
  obtain ⟨q, rfl, _⟩ := ht.tree.ptr
  exact ⟨q, rfl, ht.tree, hb⟩
/-- Rows that are too long: what is known answers. -/
theorem tell_long (p q : Option Addr) (la lb cap cap' : Nat) (w : World) (hX : Tabs w) (h : 60 < la ∨ 100 < lb) : Calls Tryd.prog 5 #[.slice p la cap, .slice q lb cap'] w fun e w' => Made (.returned (.bool true)) w e w' := by
  have HW := Lib.hid (fun W (h : Below w.heap.size w W) => wakes_any W (hX.below h))
  have HB0 : Hid (Below w.heap.size w (w.alloc (.cells #[.slice q lb cap'] 31))) := Lib.hid ((Below.refl _ _).alloc (Nat.le_refl _) _)
  clear hX
  by_cases h1 : 60 < la
  · have i1 : (60 : Int) < (la : Int) := by omega
    clear h
    go_enter Tryd.func5, Tryd.ntmps5
    go_wp2_with fail
    refine (HW.out _ HB0.out).mono ?_
    rintro e w1 ⟨rfl, hb⟩
    have HB := Lib.hid (HB0.out.trans (hb.mono HB0.out.size)); clear hb
    go_wp2_with fail
    go_ret
    exact ⟨rfl, HB.out⟩
  · have i1 : (la : Int) ≤ 60 := by omega
    have i2 : (100 : Int) < (lb : Int) := by omega
    clear h
    go_enter Tryd.func5, Tryd.ntmps5
    go_wp2_with fail
    refine (HW.out _ HB0.out).mono ?_
    rintro e w1 ⟨rfl, hb⟩
    have HB := Lib.hid (HB0.out.trans (hb.mono HB0.out.size)); clear hb
    go_wp2_with fail
    go_ret
    exact ⟨rfl, HB.out⟩
set_option maxRecDepth 100000 in
set_option maxHeartbeats 1000000 in
theorem tell_bad (l : List It) (ul : Nat) (va : Value) (q : Option Addr) (cap' : Nat) (w : World) (hA : Row w va l) (hX : Tabs w) (h1 : l.length ≤ 60) (h2 : ul ≤ 100) (z : Int) (ea : goodV (endOf l) = .tuple #[.int .i64 z, .bool false]) (hf : fitsF (ofF l 20 0).1 12 = false) :
    Calls Tryd.prog 5 #[va, .slice q ul cap'] w fun e w' => Made (.returned (.bool true)) w e w' := by
  have HG := Lib.hid (fun W (hb : Below w.heap.size w W) => ea ▸ good_any l va W (hA.below hb))
  have HW := Lib.hid (fun W (hb : Below w.heap.size w W) => wakes_any W (hX.below hb))
  have HO := Lib.hid (fun W (hb : Below w.heap.size w W) => of_tree l va W (hA.below hb))
  have HB0 : Hid (Below w.heap.size w (w.alloc (.cells #[.slice q ul cap'] 31))) := Lib.hid ((Below.refl _ _).alloc (Nat.le_refl _) _)
  obtain ⟨p, cap, rfl, hl⟩ := hA.len
  have i1 : (l.length : Int) ≤ 60 := by omega
  have i2 : (ul : Int) ≤ 100 := by omega
  generalize (ofF l 20 0).2 = at2 at HO
  generalize (ofF l 20 0).1 = t at HO hf
  have HM := Lib.hid (fun p W (hT : Tree W t p) => hf ▸ may_any t p W hT)
  have HE := Lib.hid (fun F f c p W (hT : Tree W t p) => eval_not t F f c p W hT hf)
  have HT := Lib.hid (fun p W (hT : Tree W t p) => text_not t p W hT hf)
  have HS := Lib.hid (fun p W (hT : Tree W t p) => (show Calls _ _ _ _ _ from by have h := Same_any t t p p W hT hT; rw [hf, Bool.false_and] at h; exact h))
  clear hA hX ea hf
  go_enter Tryd.func5, Tryd.ntmps5
  go_wp2_with fail
  refine (HO.out _ HB0.out).mono ?_
  rintro e w1 ⟨px, rfl, ht, hb⟩
  have HB1 := Lib.hid (HB0.out.trans (hb.mono HB0.out.size))
  have HT1 := Lib.hid ht
  clear hb ht
  go_wp2_with fail
  refine (HG.out _ HB1.out).mono ?_
  rintro e w2 ⟨rfl, hb⟩
  have HB2 := Lib.hid (HB1.out.trans (hb.mono HB1.out.size))
  have HT2 := Lib.hid (HT1.out.below hb)
  clear hb
  go_wp2_with fail
  refine (HM.out _ _ HT2.out).mono ?_
  rintro e w3 ⟨rfl, hb⟩
  have HB3 := Lib.hid (HB2.out.trans (hb.mono HB2.out.size))
  have HT3 := Lib.hid (HT2.out.below hb)
  clear hb
  go_wp2_with fail
  have hb4 : Below w3.heap.size w3 (w3.alloc (.cells #[.int .i64 0] 3)) := (Below.refl _ _).alloc (Nat.le_refl _) _
  have hn4 : Sits (w3.alloc (.cells #[.int .i64 0] 3)) w3.heap.size 3 #[.int .i64 0] := Sits.new _ _ _
  have HB4 := Lib.hid (HB3.out.trans (hb4.mono HB3.out.size))
  have HT4 := Lib.hid (HT3.out.below hb4)
  generalize w3.alloc (.cells #[.int .i64 0] 3) = w4 at hb4 hn4 HB4 HT4 ⊢
  refine (HE.out _ _ _ _ w4 HT4.out).mono ?_
  rintro e w5 ⟨rfl, hb⟩
  have hn5 := hn4.below hb hn4.lt
  have HB5 := Lib.hid (HB4.out.trans (hb.mono HB4.out.size))
  have HT5 := Lib.hid (HT4.out.below hb)
  clear hb hb4 hn4
  go_wp2_with fail
  refine (HT.out _ _ HT5.out).mono ?_
  rintro e w6 ⟨rfl, hb⟩
  have hn6 := hn5.below hb hn5.lt
  have c6 : w6.cell? ⟨w3.heap.size, 0, none⟩ = some (.int .i64 0) := hn6.cell 0
  have l6 := hn6.lt
  have HB6 := Lib.hid (HB5.out.trans (hb.mono HB5.out.size))
  have HT6 := Lib.hid (HT5.out.below hb)
  clear hb hn5 hn6
  go_wp2_with fail
  refine (HS.out _ _ HT6.out).mono ?_
  rintro e w7 ⟨rfl, hb⟩
  have HB7 := Lib.hid (HB6.out.trans (hb.mono HB6.out.size))
  clear hb c6 l6
  go_wp2_with fail
  refine (HW.out _ HB7.out).mono ?_
  rintro e w8 ⟨rfl, hb⟩
  have HB8 := Lib.hid (HB7.out.trans (hb.mono HB7.out.size))
  clear hb
  go_wp2_with fail
  go_ret
  exact ⟨rfl, HB8.out⟩
end Go.Proofs.YtlfdjlpkopmhhaaDoor.Expr
