/- Layer 4 (prog): the test that is known. -/
import Derived.Test.YtpdpofoicdijlaaGreatDoorStmN
import Derived.Test.YtpdpofoicdijlaaGreatDoorStmJ
namespace Go.Proofs.YtpdpofoicdijlaaGreatDoor.Prog
open Go.RowKit Go.Proofs.YtpdpofoicdijlaaGreatDoor.Mem Go.Proofs.YtpdpofoicdijlaaGreatDoor.Expr Go.Lib

def at_ (g : Nat) : Value := .pointer (some ⟨g, 0, none⟩)
def box (a : It) (l r : Value) : Obj := .cells (exprCells a l r) 58
def wakeIn : Blk := .cons ⟨3, 0, 2, 121, some (.num 1), none⟩ .nil .nil .nil
def wakeBlk : Blk := .cons ⟨2, 0, 3, 120, none, none⟩ .nil .nil (.cons ⟨8, 0, 0, 0, some (.reg 0), none⟩ wakeIn .nil .nil)
def wakeTs : Ts := ⟨[(120, 7)], [wakeBlk], false, some (.num 1)⟩
def wakeW (w : World) : World := (((((((w.alloc (box ⟨1, 0, 0, 0, 0, 0⟩ (.pointer none) (.pointer none))).alloc (box ⟨0, 0, 1, 0, 0, 0⟩ (.pointer none) (.pointer none))).alloc (.cells #[.int .u8 120, .int .u64 7] 59)).alloc (.cells #[.int .u8 3, .int .u8 0, .int .u8 2, .int .u8 121, at_ (w.heap.size + 1), .pointer none, .slice none 0 0, .slice none 0 0] 62)).alloc (.cells #[.int .u8 2, .int .u8 0, .int .u8 3, .int .u8 120, .pointer none, .pointer none, .slice none 0 0, .slice none 0 0, .int .u8 8, .int .u8 0, .int .u8 0, .int .u8 0, at_ w.heap.size, .pointer none, .slice (some ⟨w.heap.size + 3, 0, none⟩) 1 1, .slice none 0 0] 62)).alloc (.cells #[.slice (some ⟨w.heap.size + 4, 0, none⟩) 2 2] 60)).alloc (.cells #[.slice (some ⟨w.heap.size + 2, 0, none⟩) 1 1, .slice (some ⟨w.heap.size + 5, 0, none⟩) 1 1, .bool false, at_ (w.heap.size + 1)] 33))
theorem wake_low (w : World) : Below w.heap.size w (wakeW w) := (((((((Below.refl _ w).alloc (Nat.le_refl _) _).alloc (by simp) _).alloc (by simp; omega) _).alloc (by simp; omega) _).alloc (by simp; omega) _).alloc (by simp; omega) _).alloc (by simp; omega) _
theorem wake_size (w : World) : (wakeW w).heap.size = w.heap.size + 7 := by simp [wakeW]
theorem rowAt_sits {U : Nat → Prop} {w : World} {g n cap : Nat} {t : TypeId} {cs : List Value} (h : Sits w g t cs.toArray) (hg : U g) (hn : n ≤ 1000000) : RowAt U w (.slice (some ⟨g, 0, none⟩) n cap) n cs :=
  .inr ⟨g, 0, cap, rfl, hg, hn, fun j u hu => by rw [Nat.zero_add, h.cell]; simpa using hu⟩
theorem rowAt_none {U : Nat → Prop} {w : World} : RowAt U w (.slice none 0 0) 0 [] := .inl ⟨rfl, none, 0, rfl⟩
theorem sits_box (w : World) (g : Nat) (hg : g = w.heap.size) (a : It) (l r : Value) : Sits (w.alloc (box a l r)) g 58 (exprCells a l r) := Sits.made hg _ _
theorem wake_reg (w : World) : Tree (wakeW w) (trO (some (.reg 0))) (at_ w.heap.size) := ⟨_, _, _, rfl, (((((((sits_box _ w.heap.size (by simp) _ _ _).alloc _).alloc _).alloc _).alloc _).alloc _).alloc _), rfl, rfl⟩
theorem wake_num (w : World) : Tree (wakeW w) (trO (some (.num 1))) (at_ (w.heap.size + 1)) := ⟨_, _, _, rfl, ((((((sits_box _ (w.heap.size + 1) (by simp) _ _ _).alloc _).alloc _).alloc _).alloc _).alloc _), rfl, rfl⟩
theorem wake_in (w : World) : Sits (wakeW w) (w.heap.size + 3) 62 (stCells ⟨3, 0, 2, 121, some (.num 1), none⟩ (at_ (w.heap.size + 1)) (.pointer none) (.slice none 0 0) (.slice none 0 0)).toArray := ((((Sits.made (by simp) _ _).alloc _).alloc _).alloc _)
theorem wake_row (w : World) : Sits (wakeW w) (w.heap.size + 4) 62 (stCells ⟨2, 0, 3, 120, none, none⟩ (.pointer none) (.pointer none) (.slice none 0 0) (.slice none 0 0) ++ (stCells ⟨8, 0, 0, 0, some (.reg 0), none⟩ (at_ w.heap.size) (.pointer none) (.slice (some ⟨w.heap.size + 3, 0, none⟩) 1 1) (.slice none 0 0) ++ [])).toArray := (((Sits.made (by simp) _ _).alloc _).alloc _)
theorem wake_test (w : World) : Sits (wakeW w) (w.heap.size + 6) 33 #[.slice (some ⟨w.heap.size + 2, 0, none⟩) 1 1, .slice (some ⟨w.heap.size + 5, 0, none⟩) 1 1, .bool false, at_ (w.heap.size + 1)] := (Sits.made (by simp) _ _)
theorem wake_threads (w : World) : Sits (wakeW w) (w.heap.size + 5) 60 [Value.slice (some ⟨w.heap.size + 4, 0, none⟩) 2 2].toArray := ((Sits.made (by simp) _ _).alloc _)
theorem wake_init (w : World) : Sits (wakeW w) (w.heap.size + 2) 59 ([(120, 7)].flatMap initCell).toArray := (((((Sits.made (by simp) _ _).alloc _).alloc _).alloc _).alloc _)
theorem wake_stand (w : World) : Stand (off (w.heap.size + 7)) (wakeW w) wakeBlk (.slice (some ⟨w.heap.size + 4, 0, none⟩) 2 2) :=
  ⟨_, rowAt_sits (wake_row w) (by unfold off; omega) (by decide), .pointer none, .pointer none, .slice none 0 0, .slice none 0 0, [], [], _, rfl, rfl, rfl, rowAt_none, rfl, rowAt_none, rfl,
    at_ w.heap.size, .pointer none, .slice (some ⟨w.heap.size + 3, 0, none⟩) 1 1, .slice none 0 0, _, [], [], rfl, wake_reg w, rfl, rowAt_sits (wake_in w) (by unfold off; omega) (by decide),
    ⟨at_ (w.heap.size + 1), .pointer none, .slice none 0 0, .slice none 0 0, [], [], [], rfl, wake_num w, rfl, rowAt_none, rfl, rowAt_none, rfl, rfl⟩, rowAt_none, rfl, rfl⟩
theorem wake_v (w : World) : TestV (wakeW w) wakeTs (.slice (some ⟨w.heap.size + 2, 0, none⟩) 1 1) (.slice (some ⟨w.heap.size + 5, 0, none⟩) 1 1) (at_ (w.heap.size + 1)) :=
  ⟨rowAt_sits (wake_init w) trivial (by decide), ⟨_, rowAt_sits (wake_threads w) trivial (by decide), rfl, fun i b u hb hu => by
    rcases i with _ | i
    · simp only [wakeTs, List.getElem?_cons_zero, Option.some.injEq] at hb hu
      subst hb hu
      exact (wake_stand w).wider fun _ _ => trivial
    · simp [wakeTs] at hb⟩, wake_num w⟩
theorem wake_text : str wakeTs.text = ⟨#[105, 110, 105, 116, 32, 120, 32, 61, 32, 55, 59, 10, 116, 104, 114, 101, 97, 100, 32, 123, 10, 32, 32, 114, 48, 32, 61, 32, 108, 111, 97, 100, 40, 120, 44, 32, 97, 99, 113, 41, 59, 10, 32, 32, 105, 102, 32, 40, 114, 48, 41, 32, 123, 10, 32, 32, 32, 32, 115, 116, 111, 114, 101, 40, 121, 44, 32, 49, 44, 32, 114, 108, 120, 41, 59, 10, 32, 32, 125, 10, 125, 10, 101, 120, 105, 115, 116, 115, 32, 49, 59, 10]⟩ := by kernel_rfl
theorem wake_fine : wakeBlk.fine := ⟨trivial, trivial, by decide, by decide, by decide, by decide, trivial, trivial, ⟨by show 0 < 8; decide, by decide⟩, trivial, by decide, by decide, by decide, by decide, ⟨⟨by show 1 < 18446744073709551616; decide, by decide⟩, trivial, by decide, by decide, by decide, by decide, trivial, trivial, trivial⟩, trivial, trivial⟩
theorem wake_small : wakeTs.small := ⟨by decide, by simp [wakeTs], by decide, by simp only [wakeTs, List.mem_singleton]; rintro b rfl; exact ⟨wake_fine, by decide⟩, ⟨by show 1 < 18446744073709551616; decide, by decide⟩⟩
theorem wake_good : wakeTs.good := ⟨by decide, by decide, by simp only [wakeTs, List.mem_singleton]; rintro b rfl; exact ⟨wake_fine, by decide⟩, ⟨by show 1 < 18446744073709551616; decide, by decide⟩⟩
/-- What stands from the walk on. -/
structure Awake (w0 W : World) : Prop where
  v : TestV W wakeTs (.slice (some ⟨w0.heap.size + 2, 0, none⟩) 1 1) (.slice (some ⟨w0.heap.size + 5, 0, none⟩) 1 1) (at_ (w0.heap.size + 1))
  b : Stand any_ W wakeBlk (.slice (some ⟨w0.heap.size + 4, 0, none⟩) 2 2)
  test : Sits W (w0.heap.size + 6) 33 #[.slice (some ⟨w0.heap.size + 2, 0, none⟩) 1 1, .slice (some ⟨w0.heap.size + 5, 0, none⟩) 1 1, .bool false, at_ (w0.heap.size + 1)]
  row : Sits W (w0.heap.size + 5) 60 #[Value.slice (some ⟨w0.heap.size + 4, 0, none⟩) 2 2]
  n : Count W (w0.heap.size + 7) 3
  low : Below w0.heap.size w0 W
theorem Awake.below {w0 W W' : World} (h : Awake w0 W) (hb : Below W.heap.size W W') : Awake w0 W' :=
  ⟨h.v.below hb, h.b.below hb, h.test.below hb h.test.lt, h.row.below hb h.row.lt, h.n.below hb h.n.lt, h.low.trans (hb.mono h.low.size)⟩
def wakeC (w : World) : World := (wakeW w).alloc (.cells #[.int .i64 0] 3)
theorem wakeC_count (w : World) : Count (wakeC w) (w.heap.size + 7) 0 := Sits.made (wake_size w).symm _ _
theorem wake_awake (w W : World) (h : Ticked (w.heap.size + 7) 3 (wakeC w) (.returned (.tuple #[])) W) : Awake w W := by
  obtain ⟨_, hn, hk⟩ := h
  have hb : Below (wakeW w).heap.size (wakeW w) W := behind ((Below.refl _ _).alloc (Nat.le_refl _) _) hk (by simp) (fun x e => by rw [e, wake_size]; exact Nat.le_refl _)
  exact ⟨(wake_v w).below hb, ((wake_stand w).wider fun _ _ => trivial).below hb, (wake_test w).below hb (wake_test w).lt, (wake_threads w).below hb (wake_threads w).lt, hn, (wake_low w).trans (hb.mono (wake_low w).size)⟩
theorem wake_walk (w : World) : Calls Tryz.prog 20 #[.slice (some ⟨w.heap.size + 4, 0, none⟩) 2 2, .func (.func 21) #[] #[.pointer (some ⟨w.heap.size + 7, 0, none⟩)]] (wakeC w) fun e W => e = .returned (.tuple #[]) ∧ Awake w W :=
  (WalkSt_any _ _ (wtick (w.heap.size + 7)) wakeBlk _ 0 (wakeC w) (by decide) (wakeC_count w) ((wake_stand w).below ((Below.refl _ _).alloc (Nat.le_refl _) _))).mono fun e W h => ⟨h.1, wake_awake w W (h.1 ▸ h)⟩
set_option maxRecDepth 100000 in
theorem woken_any (w : World) (hX : All w) : Calls Tryz.prog 9 #[] w fun e w' => Made (.returned (.bool true)) w e w' := by
  have HX := Lib.hid hX
  have HW := Lib.hid (wake_walk w)
  have HC := Lib.hid (fun W (h : Awake w W) => (show (W.cell? ⟨w.heap.size + 1 + 1 + 1 + 1 + 1 + 1, 0, none⟩ = some (.slice (some ⟨w.heap.size + 1 + 1, 0, none⟩) 1 1) ∧ W.cell? ⟨w.heap.size + 1 + 1 + 1 + 1 + 1 + 1, 1, none⟩ = some (.slice (some ⟨w.heap.size + 1 + 1 + 1 + 1 + 1, 0, none⟩) 1 1) ∧ W.cell? ⟨w.heap.size + 1 + 1 + 1 + 1 + 1 + 1, 2, none⟩ = some (.bool false) ∧ W.cell? ⟨w.heap.size + 1 + 1 + 1 + 1 + 1 + 1, 3, none⟩ = some (.pointer (some ⟨w.heap.size + 1, 0, none⟩)) ∧ W.cell? ⟨w.heap.size + 1 + 1 + 1 + 1 + 1, 0, none⟩ = some (.slice (some ⟨w.heap.size + 1 + 1 + 1 + 1, 0, none⟩) 2 2) ∧ W.cell? ⟨w.heap.size + 1 + 1 + 1 + 1 + 1 + 1 + 1, 0, none⟩ = some (.int .i64 3) ∧ w.heap.size + 1 + 1 + 1 + 1 + 1 < W.heap.size ∧ w.heap.size + 1 + 1 + 1 + 1 + 1 + 1 < W.heap.size ∧ w.heap.size + 1 + 1 + 1 + 1 + 1 + 1 + 1 < W.heap.size) from ⟨h.test.cell 0, h.test.cell 1, h.test.cell 2, h.test.cell 3, h.row.cell 0, h.n.cell 0, h.row.lt, h.test.lt, h.n.lt⟩))
  have HT := Lib.hid (fun W (h : Awake w W) => (show Calls Tryz.prog _ #[.agg #[.slice (some ⟨w.heap.size + 1 + 1, 0, none⟩) 1 1, .slice (some ⟨w.heap.size + 1 + 1 + 1 + 1 + 1, 0, none⟩) 1 1, .bool false, .pointer (some ⟨w.heap.size + 1, 0, none⟩)]] _ fun e' w' => e' = .returned (.string ⟨#[105, 110, 105, 116, 32, 120, 32, 61, 32, 55, 59, 10, 116, 104, 114, 101, 97, 100, 32, 123, 10, 32, 32, 114, 48, 32, 61, 32, 108, 111, 97, 100, 40, 120, 44, 32, 97, 99, 113, 41, 59, 10, 32, 32, 105, 102, 32, 40, 114, 48, 41, 32, 123, 10, 32, 32, 32, 32, 115, 116, 111, 114, 101, 40, 121, 44, 32, 49, 44, 32, 114, 108, 120, 41, 59, 10, 32, 32, 125, 10, 125, 10, 101, 120, 105, 115, 116, 115, 32, 49, 59, 10]⟩) ∧ Awake w w' from (text_test wakeTs wake_small _ _ _ W (hX.below h.low) h.v).mono fun e' w' hp => ⟨wake_text ▸ hp.1, h.below hp.2⟩))
  have HN := Lib.hid (fun W (h : Awake w W) => (show Calls Tryz.prog _ #[.slice (some ⟨w.heap.size + 1 + 1 + 1 + 1, 0, none⟩) 2 2] _ fun e' w' => e' = .returned (.int .i64 2) ∧ Awake w w' from (Nest_any wakeBlk _ W h.b).mono fun e' w' hp => ⟨hp.1, h.below hp.2⟩))
  have HS := Lib.hid (fun W (h : Awake w W) => (show Calls Tryz.prog _ #[.agg #[.slice (some ⟨w.heap.size + 1 + 1, 0, none⟩) 1 1, .slice (some ⟨w.heap.size + 1 + 1 + 1 + 1 + 1, 0, none⟩) 1 1, .bool false, .pointer (some ⟨w.heap.size + 1, 0, none⟩)], .agg #[.slice (some ⟨w.heap.size + 1 + 1, 0, none⟩) 1 1, .slice (some ⟨w.heap.size + 1 + 1 + 1 + 1 + 1, 0, none⟩) 1 1, .bool false, .pointer (some ⟨w.heap.size + 1, 0, none⟩)]] _ fun e' w' => e' = .returned (.bool true) ∧ Awake w w' from (same_test wakeTs wakeTs wake_good _ _ _ _ _ _ W h.v h.v).mono fun e' w' hp => ⟨by rw [hp.1, decide_eq_true rfl], h.below hp.2⟩))
  have HM := Lib.hid (fun W (h : Awake w W) => (modes_any 6 (by decide) W).mono fun e' w' (hp : ModesMade 6 W e' w') => (show ∃ g, e' = .returned (.slice (some ⟨g, 0, none⟩) 4 4) ∧ Awake w w' from by
    obtain ⟨v, he, hs, hb⟩ := hp
    rcases hs with ⟨h0, _⟩ | ⟨g, hv, _⟩
    · exact absurd h0 (by decide)
    · exact ⟨g, by rw [he, hv]; rfl, h.below hb⟩))
  have HL := Lib.hid (fun W (h : Awake w W) => h.low)
  clear hX
  go_enter Tryz.func9, Tryz.ntmps9
  go_wp2_with fail
  change Calls _ _ #[.slice (some ⟨w.heap.size + 1 + 1 + 1 + 1, 0, none⟩) 2 2, .func (.func 21) #[] #[.pointer (some ⟨w.heap.size + 1 + 1 + 1 + 1 + 1 + 1 + 1, 0, none⟩)]] (wakeC w) _
  generalize wakeC w = W at HW ⊢
  refine HW.out.mono ?_
  rintro e w1 ⟨rfl, ha⟩
  have hcs := HC.out w1 ha
  have H1 := Lib.hid ha
  clear ha HW
  obtain ⟨c0, c1, c2, c3, c4, c5, c6, c7, c8⟩ := hcs
  go_wp2_with fail
  refine (HT.out _ H1.out).mono ?_
  rintro e w2 ⟨rfl, ha⟩
  have hcs := HC.out w2 ha
  have H2 := Lib.hid ha
  clear ha c0 c1 c2 c3 c4 c5 c6 c7 c8
  obtain ⟨c0, c1, c2, c3, c4, c5, c6, c7, c8⟩ := hcs
  go_wp2_with fail
  refine (HN.out _ H2.out).mono ?_
  rintro e w3 ⟨rfl, ha⟩
  have hcs := HC.out w3 ha
  have H3 := Lib.hid ha
  clear ha c0 c1 c2 c3 c4 c5 c6 c7 c8
  obtain ⟨c0, c1, c2, c3, c4, c5, c6, c7, c8⟩ := hcs
  go_wp2_with fail
  refine (HS.out _ H3.out).mono ?_
  rintro e w4 ⟨rfl, ha⟩
  have hcs := HC.out w4 ha
  have H4 := Lib.hid ha
  clear ha c0 c1 c2 c3 c4 c5 c6 c7 c8
  obtain ⟨c0, c1, c2, c3, c4, c5, c6, c7, c8⟩ := hcs
  go_wp2_with fail
  refine (HM.out _ H4.out).mono ?_
  rintro e w5 ⟨gm, rfl, ha⟩
  have H5 := Lib.hid ha
  clear ha c0 c1 c2 c3 c4 c5 c6 c7 c8
  go_wp2_with fail
  go_ret
  exact ⟨rfl, HL.out _ H5.out⟩
end Go.Proofs.YtpdpofoicdijlaaGreatDoor.Prog
