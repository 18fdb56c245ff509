/- Layer 4 (prog): how deep the document says that a block of a row is. -/
import Derived.Test.YtpdpofoicdijlaaGreatDoorStmK
import Derived.Test.YtpdpofoicdijlaaGreatDoorStmG
namespace Go.Proofs.YtpdpofoicdijlaaGreatDoor.Prog
open Go.RowKit Go.Proofs.YtpdpofoicdijlaaGreatDoor.Mem Go.Proofs.YtpdpofoicdijlaaGreatDoor.Expr Go.Lib

theorem deep_snoc8 {x : Mark} (h : x.kind = 8) (q t e : Blk) : (q.snoc (mkOf x) t e).deep - 1 = max (max (q.deep - 1) t.deep) e.deep := by
  rw [deep_snoc]; have := q.deep_pos; have := t.deep_pos; have := e.deep_pos
  have hk : (mkOf x).kind = 8 := h
  simp only [kids, hk, kd, List.foldr_cons, List.foldr_nil, if_pos]
  omega
theorem deep_snoc9 {x : Mark} (h : x.kind = 9) (q t e : Blk) : (q.snoc (mkOf x) t e).deep - 1 = max (q.deep - 1) t.deep := by
  rw [deep_snoc]; have := q.deep_pos; have := t.deep_pos
  have hk : (mkOf x).kind = 9 := h
  simp only [kids, hk, kd]
  simp
  omega
theorem deep_snoc0 {x : Mark} (h8 : x.kind ≠ 8) (h9 : x.kind ≠ 9) (q t e : Blk) : (q.snoc (mkOf x) t e).deep - 1 = q.deep - 1 := by
  rw [deep_snoc]; have := q.deep_pos
  have hk : (mkOf x).kind ≠ 8 ∧ (mkOf x).kind ≠ 9 := ⟨h8, h9⟩
  simp only [kids, if_neg hk.1, if_neg hk.2, kd, List.foldr_nil]
  omega
def DeepMade (d m : Nat) (w : World) (e : Ending) (w' : World) : Prop := Made (.returned (.tuple #[.int .i64 (d : Nat), .int .i64 (m : Nat)])) w e w'
theorem deepBlk_size (b : Blk) : b.deep ≤ b.size + 1 := by
  induction b with
  | nil => exact Nat.le_refl _
  | cons m t e r iht ihe ihr =>
    simp only [Blk.deep, Blk.size]
    split
    · omega
    · split <;> omega
set_option maxRecDepth 100000 in
set_option maxHeartbeats 2000000 in
theorem deepRow_step (l : List Mark) (k m : Nat) (b : Blk) (hb : BSp l k b m) (hm : m ≤ 10000000) (v : Value) (w : World) (hv : MRow w v l)
    (IH : k < l.length → ∀ (j : Nat) (c : Blk) (i : Nat), k < j → BSp l j c i → i ≤ 10000000 → ∀ W, Below w.heap.size w W → Calls Tryz.prog 17 #[v, .int .i64 (j : Nat)] W (DeepMade c.deep i W)) :
    Calls Tryz.prog 17 #[v, .int .i64 (k : Nat)] w (DeepMade b.deep m w) := by
  have HBS := Lib.hid hb
  have HV := Lib.hid hv
  have HIH := Lib.hid IH
  have HM := Lib.hid hm
  have HDB := Lib.hid (show b.deep ≤ b.size + 1 from deepBlk_size b)
  obtain ⟨p, cap, rfl, hl⟩ := hv.len
  have i1 : (l.length : Int) ≤ 1000000 := by omega
  have HL := Lib.hid hl
  clear hv IH hb hm hl
  go_enter Tryz.func17, Tryz.ntmps17
  go_wp2_with fail
  go_loopg [1, 6] (l.length - k) (fun gg v1 v6 wx => ∃ (q r : Blk) (j : Nat), gg = l.length - j ∧ k ≤ j ∧ v1 = .int .i64 (j : Nat) ∧ v6 = .int .i64 (q.deep - 1 : Nat) ∧ Hid (b = q.app r) ∧ Hid (BSp l j r m) ∧ Hid (Below w.heap.size w wx))
  case atStart => exact ⟨Blk.nil, b, k, rfl, Nat.le_refl _, rfl, rfl, Lib.hid rfl, HBS, Lib.hid (Below.refl _ _)⟩
  case round =>
    obtain ⟨q, r, j, rfl, hkj, rfl, rfl, HE, HR, HB⟩ := hrel
    have hle := HR.out.le
    have jm : (j : Int) ≤ 10000000 := by have := HM.out; omega
    have j0 : (0 : Int) ≤ (j : Int) := by omega
    have HQB := Lib.hid (show q.deep ≤ b.deep ∧ b.deep ≤ 10000001 ∧ 1 ≤ q.deep by
      have h1 := deep_app q r
      rw [← HE.out] at h1
      have := HDB.out
      have := HBS.out.le
      have := HM.out
      exact ⟨by omega, by omega, q.deep_pos⟩)
    rcases HR.out.inv with ⟨hx, rfl, rfl⟩ | ⟨x, hx, h0, rfl, rfl⟩ | ⟨x, r', hx, h0, h8, h9, hr', rfl⟩ | ⟨x, t, i, r', hx, h9, ht, hr', rfl⟩ | ⟨x, t, i, e, i', r', hx, h8, ht, he, hr', rfl⟩
    · -- the row has ended
      have hle2 : l.length ≤ m := List.getElem?_eq_none_iff.1 hx
      have j1 : ¬ ((m : Int) < (l.length : Int)) := by omega
      have HQ := Lib.hid (show q.deep - 1 + 1 = b.deep by rw [HE.out, Blk.app_nil]; have := q.deep_pos; omega)
      have dq : ((q.deep - 1 : Nat) : Int) ≤ 10000001 := by have := HQB.out; omega
      generalize q.deep - 1 = D at HQ dq ⊢
      clear hx hle hle2
      go_wp2_with fail
      go_ret2
      exact ⟨by rw [← HQ.out]; rfl, HB.out⟩
    · -- the end of a block
      obtain ⟨g, o, cap', av, bv, e1, hlt, hmk⟩ := (HV.out.below HB.out).at hx
      injection e1 with e1 _ e2
      subst e1 e2
      have d0 := hmk.1
      have lg := World.block_lt_of_cell? _ _ d0
      have j1 : (m : Int) < (l.length : Int) := by omega
      have HQ := Lib.hid (show q.deep - 1 + 1 = b.deep by rw [HE.out, Blk.app_nil]; have := q.deep_pos; omega)
      have dq : ((q.deep - 1 : Nat) : Int) ≤ 10000001 := by have := HQB.out; omega
      generalize q.deep - 1 = D at HQ dq ⊢
      rw [h0] at d0
      clear hx hle hmk
      go_wp2_with fail
      go_ret2
      exact ⟨by rw [← HQ.out]; rfl, HB.out⟩
    · -- plain
      obtain ⟨g, o, cap', av, bv, e1, hlt, hmk⟩ := (HV.out.below HB.out).at hx
      injection e1 with e1 _ e2
      subst e1 e2
      have d0 := hmk.1
      have lg := World.block_lt_of_cell? _ _ d0
      have j1 : (j : Int) < (l.length : Int) := by omega
      have ek : ((x.kind : Int) == 0) = false := beq_eq_false_iff_ne.2 (by omega)
      have ek' : ((x.kind : Int) != 0) = true := by rw [bne, ek]; rfl
      have k8 : ((x.kind : Int) == 8) = false := beq_eq_false_iff_ne.2 (by omega)
      have k9 : ((x.kind : Int) == 9) = false := beq_eq_false_iff_ne.2 (by omega)
      have HE2 := Lib.hid (show b = (q.snoc (mkOf x) .nil .nil).app r' by rw [Blk.snoc_app]; exact HE.out)
      have HD2 := Lib.hid (deep_snoc0 (x := x) h8 h9 q .nil .nil)
      have HDN := Lib.hid (show (q.snoc (mkOf x) .nil .nil).deep ≤ 10000001 by
        have h1 := deep_app (q.snoc (mkOf x) .nil .nil) r'
        rw [← HE2.out] at h1
        have := HQB.out
        omega)
      have HKJ := Lib.hid (show k ≤ j ∧ j < l.length from ⟨hkj, hlt⟩)
      have HR' := Lib.hid hr'
      clear hx hmk hle hr' h0 h8 h9
      go_wp2_with fail
      go_loopg [1, 6, 8] 0 (fun gg v1 v6 v8 wx => ((gg = 0 ∧ v1 = .int .i64 (j + 1 : Nat) ∧ v6 = .int .i64 (q.deep - 1 : Nat) ∧ v8 = .int .i64 0)) ∧ Hid (Below w.heap.size w wx))
      case atStart => exact ⟨⟨rfl, rfl, rfl, rfl⟩, HB⟩
      case round =>
        obtain ⟨hs, HBj⟩ := hrel
        rcases hs with ⟨rfl, rfl, rfl, rfl⟩
        · have m1 : ((j + 1 : Nat) : Int) ≤ 10000000 := by omega
          have m0 : (0 : Int) ≤ ((j + 1 : Nat) : Int) := by omega
          go_wp2_with fail
          go_roundg (l.length - (j + 1))
          case measure => have := HKJ.out; omega
          case rel => exact ⟨q.snoc (mkOf x) .nil .nil, r', j + 1, rfl, by have := HKJ.out; omega, rfl, by rw [HD2.out], HE2, HR', HBj⟩
    · -- loop
      obtain ⟨g, o, cap', av, bv, e1, hlt, hmk⟩ := (HV.out.below HB.out).at hx
      injection e1 with e1 _ e2
      subst e1 e2
      have d0 := hmk.1
      have lg := World.block_lt_of_cell? _ _ d0
      have j1 : (j : Int) < (l.length : Int) := by omega
      rw [h9] at d0
      have hi := ht.le
      have hm2 := hr'.le
      have HC0 := Lib.hid (fun W (h : Below w.heap.size w W) => HIH.out (by omega) (j + 1) t i (by omega) ht (by have := HM.out; omega) W h)
      have HE2 := Lib.hid (show b = (q.snoc (mkOf x) t .nil).app r' by rw [Blk.snoc_app]; exact HE.out)
      have HD2 := Lib.hid (deep_snoc9 (x := x) h9 q t .nil)
      have HI := Lib.hid (show j < i ∧ i + 1 ≤ 10000000 by have := HM.out; omega)
      have HDN := Lib.hid (show (q.snoc (mkOf x) t .nil).deep ≤ 10000001 by
        have h1 := deep_app (q.snoc (mkOf x) t .nil) r'
        rw [← HE2.out] at h1
        have := HQB.out
        omega)
      have HKJ := Lib.hid (show k ≤ j ∧ j < l.length from ⟨hkj, hlt⟩)
      have HR' := Lib.hid hr'
      clear hx hmk hle hr' h9 ht hi hm2
      go_wp2_with fail
      go_loopg [1, 6, 8] 1 (fun gg v1 v6 v8 wx => ((gg = 1 ∧ v1 = .int .i64 (j + 1 : Nat) ∧ v6 = .int .i64 (q.deep - 1 : Nat) ∧ v8 = .int .i64 0) ∨ (gg = 0 ∧ v1 = .int .i64 (i + 1 : Nat) ∧ v6 = .int .i64 (max (q.deep - 1) t.deep : Nat) ∧ v8 = .int .i64 1)) ∧ Hid (Below w.heap.size w wx))
      case atStart => exact ⟨.inl ⟨rfl, rfl, rfl, rfl⟩, HB⟩
      case round =>
        obtain ⟨hs, HBj⟩ := hrel
        rcases hs with ⟨rfl, rfl, rfl, rfl⟩ | ⟨rfl, rfl, rfl, rfl⟩
        · have m1 : ((j + 1 : Nat) : Int) ≤ 10000000 := by omega
          have m0 : (0 : Int) ≤ ((j + 1 : Nat) : Int) := by omega
          have HCC := Lib.hid (HC0.out _ HBj.out)
          generalize hD : q.deep - 1 = D
          generalize hX : t.deep = X at HCC
          have mx : max (D : Int) (X : Int) = ((max D X : Nat) : Int) := by omega
          have HDD := Lib.hid hD
          have HXX := Lib.hid hX
          clear hD hX
          go_wp2_with fail
          refine HCC.out.mono ?_
          rintro e' w2 ⟨rfl, hb⟩
          have HB2 := Lib.hid (HBj.out.trans (hb.mono HBj.out.size))
          have n1 : (i : Int) ≤ 10000000 := by have := HI.out; omega
          clear hb
          go_wp2_with fail
          go_roundg 0
          case measure => omega
          case rel => exact ⟨.inr ⟨rfl, by go_num, by rw [HDD.out, HXX.out], rfl⟩, HB2⟩
        · have m1 : ((i + 1 : Nat) : Int) ≤ 10000000 := by have := HI.out; have := HM.out; omega
          have m0 : (0 : Int) ≤ ((i + 1 : Nat) : Int) := by omega
          go_wp2_with fail
          go_roundg (l.length - (i + 1))
          case measure => have := HKJ.out; have := HI.out; omega
          case rel => exact ⟨q.snoc (mkOf x) t .nil, r', i + 1, rfl, by have := HKJ.out; have := HI.out; omega, rfl, by rw [HD2.out], HE2, HR', HBj⟩
    · -- cond
      obtain ⟨g, o, cap', av, bv, e1, hlt, hmk⟩ := (HV.out.below HB.out).at hx
      injection e1 with e1 _ e2
      subst e1 e2
      have d0 := hmk.1
      have lg := World.block_lt_of_cell? _ _ d0
      have j1 : (j : Int) < (l.length : Int) := by omega
      rw [h8] at d0
      have hi := ht.le
      have hi' := he.le
      have hm2 := hr'.le
      have HC0 := Lib.hid (fun W (h : Below w.heap.size w W) => HIH.out (by omega) (j + 1) t i (by omega) ht (by have := HM.out; omega) W h)
      have HC1 := Lib.hid (fun W (h : Below w.heap.size w W) => HIH.out (by omega) (i + 1) e i' (by omega) he (by have := HM.out; omega) W h)
      have HE2 := Lib.hid (show b = (q.snoc (mkOf x) t e).app r' by rw [Blk.snoc_app]; exact HE.out)
      have HD2 := Lib.hid (deep_snoc8 (x := x) h8 q t e)
      have HI := Lib.hid (show j < i ∧ i < i' ∧ i' + 1 ≤ 10000000 by have := HM.out; omega)
      have HDN := Lib.hid (show (q.snoc (mkOf x) t e).deep ≤ 10000001 by
        have h1 := deep_app (q.snoc (mkOf x) t e) r'
        rw [← HE2.out] at h1
        have := HQB.out
        omega)
      have HKJ := Lib.hid (show k ≤ j ∧ j < l.length from ⟨hkj, hlt⟩)
      have HR' := Lib.hid hr'
      clear hx hmk hle hr' h8 ht he hi hi' hm2
      go_wp2_with fail
      go_loopg [1, 6, 8] 2 (fun gg v1 v6 v8 wx => ((gg = 2 ∧ v1 = .int .i64 (j + 1 : Nat) ∧ v6 = .int .i64 (q.deep - 1 : Nat) ∧ v8 = .int .i64 0) ∨ (gg = 1 ∧ v1 = .int .i64 (i + 1 : Nat) ∧ v6 = .int .i64 (max (q.deep - 1) t.deep : Nat) ∧ v8 = .int .i64 1) ∨ (gg = 0 ∧ v1 = .int .i64 (i' + 1 : Nat) ∧ v6 = .int .i64 (max (max (q.deep - 1) t.deep) e.deep : Nat) ∧ v8 = .int .i64 2)) ∧ Hid (Below w.heap.size w wx))
      case atStart => exact ⟨.inl ⟨rfl, rfl, rfl, rfl⟩, HB⟩
      case round =>
        obtain ⟨hs, HBj⟩ := hrel
        rcases hs with ⟨rfl, rfl, rfl, rfl⟩ | ⟨rfl, rfl, rfl, rfl⟩ | ⟨rfl, rfl, rfl, rfl⟩
        · have m1 : ((j + 1 : Nat) : Int) ≤ 10000000 := by omega
          have m0 : (0 : Int) ≤ ((j + 1 : Nat) : Int) := by omega
          have HCC := Lib.hid (HC0.out _ HBj.out)
          generalize hD : q.deep - 1 = D
          generalize hX : t.deep = X at HCC
          have mx : max (D : Int) (X : Int) = ((max D X : Nat) : Int) := by omega
          have HDD := Lib.hid hD
          have HXX := Lib.hid hX
          clear hD hX
          go_wp2_with fail
          refine HCC.out.mono ?_
          rintro e' w2 ⟨rfl, hb⟩
          have HB2 := Lib.hid (HBj.out.trans (hb.mono HBj.out.size))
          have n1 : (i : Int) ≤ 10000000 := by have := HI.out; omega
          clear hb
          go_wp2_with fail
          go_roundg 1
          case measure => omega
          case rel => exact ⟨.inr (.inl ⟨rfl, by go_num, by rw [HDD.out, HXX.out], rfl⟩), HB2⟩
        · have m1 : ((i + 1 : Nat) : Int) ≤ 10000000 := by have := HI.out; have := HM.out; omega
          have m0 : (0 : Int) ≤ ((i + 1 : Nat) : Int) := by omega
          have HCC := Lib.hid (HC1.out _ HBj.out)
          generalize hD : max (q.deep - 1) t.deep = D
          generalize hX : e.deep = X at HCC
          have mx : max (D : Int) (X : Int) = ((max D X : Nat) : Int) := by omega
          have HDD := Lib.hid hD
          have HXX := Lib.hid hX
          clear hD hX
          go_wp2_with fail
          refine HCC.out.mono ?_
          rintro e' w2 ⟨rfl, hb⟩
          have HB2 := Lib.hid (HBj.out.trans (hb.mono HBj.out.size))
          have n1 : (i' : Int) ≤ 10000000 := by have := HI.out; omega
          clear hb
          go_wp2_with fail
          go_roundg 0
          case measure => omega
          case rel => exact ⟨.inr (.inr ⟨rfl, by go_num, by rw [HDD.out, HXX.out], rfl⟩), HB2⟩
        · have m1 : ((i' + 1 : Nat) : Int) ≤ 10000000 := by have := HI.out; have := HM.out; omega
          have m0 : (0 : Int) ≤ ((i' + 1 : Nat) : Int) := by omega
          go_wp2_with fail
          go_roundg (l.length - (i' + 1))
          case measure => have := HKJ.out; have := HI.out; omega
          case rel => exact ⟨q.snoc (mkOf x) t e, r', i' + 1, rfl, by have := HKJ.out; have := HI.out; omega, rfl, by rw [HD2.out], HE2, HR', HBj⟩
theorem deepRow_any (l : List Mark) : ∀ (n k m : Nat) (b : Blk), l.length - k < n → BSp l k b m → m ≤ 10000000 → ∀ (v : Value) (w : World), MRow w v l → Calls Tryz.prog 17 #[v, .int .i64 (k : Nat)] w (DeepMade b.deep m w) := by
  intro n
  induction n with
  | zero => intro k m b h; omega
  | succ n ih =>
    intro k m b hn hb hm v w hv
    exact deepRow_step l k m b hb hm v w hv fun hk j c i hj hc hi W hW => ih j i c (by omega) hc hi v W (hv.below hW)
end Go.Proofs.YtpdpofoicdijlaaGreatDoor.Prog
