/- Layer 4 (prog): whether blocks stand in one another too often; whether two blocks are alike. -/
import Derived.Test.YtpdpofoicdijlaaGreatDoorStmF
namespace Go.Proofs.YtpdpofoicdijlaaGreatDoor.Prog
open Go.RowKit Go.Proofs.YtpdpofoicdijlaaGreatDoor.Mem Go.Proofs.YtpdpofoicdijlaaGreatDoor.Expr Go.Lib

theorem over_mono : ∀ (b : Blk) (n m : Nat), n ≤ m → b.over n = false → b.over m = false := by
  intro b
  induction b with
  | nil => intro n m _ _; simp [Blk.over]
  | cons s t e r iht ihe ihr =>
    intro n m hnm h
    cases n with
    | zero => simp [Blk.over] at h
    | succ n =>
      obtain ⟨m, rfl⟩ : ∃ k, m = k + 1 := ⟨m - 1, by omega⟩
      simp only [Blk.over, Bool.or_eq_false_iff] at h ⊢
      exact ⟨⟨iht n m (by omega) h.1.1, ihe n m (by omega) h.1.2⟩, ihr (n + 1) (m + 1) (by omega) h.2⟩
theorem over_deep : ∀ (b : Blk) (n : Nat), b.proper → b.deep ≤ n → b.over n = false := by
  intro b
  induction b with
  | nil => intro n _ _; simp [Blk.over]
  | cons m t e r iht ihe ihr =>
    intro n hp hd
    obtain ⟨hm, ht, he, hr, hne, hnt⟩ := proper_cons hp
    have h1 := (Blk.cons m t e r).deep_pos
    obtain ⟨n, rfl⟩ : ∃ k, n = k + 1 := ⟨n - 1, by omega⟩
    have hr' : r.over (n + 1) = false := ihr (n + 1) hr (by simp only [Blk.deep] at hd; omega)
    by_cases h8 : m.kind = 8
    · have ht' := iht n ht (by simp only [Blk.deep, if_pos h8] at hd; omega)
      have he' := ihe n he (by simp only [Blk.deep, if_pos h8] at hd; omega)
      simp [Blk.over, ht', he', hr']
    · obtain rfl := hne h8
      by_cases h9 : m.kind = 9
      · have ht' := iht n ht (by simp only [Blk.deep, if_neg h8, if_pos h9] at hd; omega)
        simp [Blk.over, ht', hr']
      · obtain rfl := hnt h8 h9
        simp [Blk.over, hr']
theorem over_app (q r : Blk) (n : Nat) : (q.app r).over (n + 1) = (q.over (n + 1) || r.over (n + 1)) := by
  induction q with
  | nil => simp [Blk.app, Blk.over]
  | cons m t e q _ _ ih => simp only [Blk.app, Blk.over, ih, Bool.or_assoc]

theorem val_len (q : Blk) (m : Mk) (t e : Blk) : Value.int .i64 ((q.len : Int) + 1) = .int .i64 ((q.snoc m t e).len : Nat) := by rw [Blk.len_snoc]; rfl

/-! ### deeper -/
/-- deeper's answer for a block, wherever it stands. -/
def DeepIs (c : Blk) (rm : Int) (r : Bool) : Prop := ∀ (v : Value) (w : World), Stand any_ w c v → Calls Tryz.prog 58 #[v, .int .i64 rm] w fun e w' => Made (.returned (.bool r)) w e w'
set_option maxRecDepth 100000 in
theorem deeper1_any (m : Mk) (t e : Blk) (room : Nat) (h1 : 1 ≤ room) (h2 : room ≤ 1000) (pa pb : Option Addr) (tv ev : Value) (w : World) (rb : Nat) (hrb : Sits w rb 3 #[.int .i64 (room : Nat)])
    (ht : Stand any_ w t tv) (he : Stand any_ w e ev) (bt be : Bool) (HT : DeepIs t ((room : Int) - 1) bt) (HE : DeepIs e ((room : Int) - 1) be) :
    Calls Tryz.prog 104 #[stAgg m (.pointer pa) (.pointer pb) tv ev, .pointer (some ⟨rb, 0, none⟩)] w fun e' w' => Made (.returned (.bool (bt || be))) w e' w' := by
  have hb0 : Below w.heap.size w (w.alloc (.cells #[.int .u8 m.kind, .int .u8 m.reg, .int .u8 m.mode, .int .u8 m.loc, .pointer pa, .pointer pb, tv, ev] 62)) := (Below.refl _ _).alloc (Nat.le_refl _) _
  have hs0 : Sits (w.alloc (.cells #[.int .u8 m.kind, .int .u8 m.reg, .int .u8 m.mode, .int .u8 m.loc, .pointer pa, .pointer pb, tv, ev] 62)) w.heap.size 62 #[.int .u8 m.kind, .int .u8 m.reg, .int .u8 m.mode, .int .u8 m.loc, .pointer pa, .pointer pb, tv, ev] := Sits.new _ _ _
  have HB0 := Lib.hid hb0
  have HS0 := Lib.hid hs0
  have HR0 := Lib.hid (hrb.below hb0 hrb.lt)
  have HST := Lib.hid (ht.below hb0)
  have HSE := Lib.hid (he.below hb0)
  have HHT := Lib.hid HT
  have HHE := Lib.hid HE
  obtain ⟨pt, ct, rfl, _⟩ := ht.len
  obtain ⟨pe, ce, rfl, _⟩ := he.len
  have i1 : (1 : Int) ≤ (room : Int) := by omega
  have i2 : (room : Int) ≤ 1000 := by omega
  have lr := hrb.lt
  have cr := hrb.cell 0
  clear hrb ht he HT HE h1 h2 hb0 hs0
  unfold stAgg
  go_enter Tryz.func104, Tryz.ntmps104
  go_wp2_with fail
  generalize w.alloc (.cells #[.int .u8 m.kind, .int .u8 m.reg, .int .u8 m.mode, .int .u8 m.loc, .pointer pa, .pointer pb, .slice pt t.len ct, .slice pe e.len ce] 62) = wa at HB0 HS0 HR0 HST HSE ⊢
  refine (HHT.out _ _ HST.out).mono ?_
  rintro e' w1 ⟨rfl, hb⟩
  have HB1 := Lib.hid (HB0.out.trans (hb.mono HB0.out.size))
  have c7 := (HS0.out.below hb HS0.out.lt).cell 7
  have l7 := (HS0.out.below hb HS0.out.lt).lt
  have cr := (HR0.out.below hb HR0.out.lt).cell 0
  have lr := (HR0.out.below hb HR0.out.lt).lt
  have HSE1 := Lib.hid (HSE.out.below hb)
  clear hb
  cases bt
  · go_wp2_with fail
    refine (HHE.out _ _ HSE1.out).mono ?_
    rintro e' w2 ⟨rfl, hb⟩
    have HB2 := Lib.hid (HB1.out.trans (hb.mono HB1.out.size))
    clear hb
    go_wp2_with fail
    go_ret
    exact ⟨rfl, HB2.out⟩
  · go_wp2_with fail
    go_ret
    exact ⟨rfl, HB1.out⟩
theorem deeper1_enters : Expr.Enters 104 := enters_of Tryz.func104 (by kernel_rfl) rfl
/-- Where the first statement stands of which the function says so; below 0: nowhere. -/
def SomeIdx (r : Bool) (w : World) (e : Ending) (w' : World) : Prop := ∃ z : Int, e = .returned (.int .i64 z) ∧ decide (0 ≤ z) = r ∧ Below w.heap.size w w'
set_option maxRecDepth 100000 in
set_option maxHeartbeats 1000000 in
theorem index_any (b : Blk) (room : Nat) (h1 : 1 ≤ room) (h2 : room ≤ 1000) (v : Value) (w : World) (rb : Nat) (hrb : Sits w rb 3 #[.int .i64 (room : Nat)]) (hS : Stand any_ w b v)
    (IH : ∀ c : Blk, c.size < b.size → DeepIs c ((room : Int) - 1) (c.over (room - 1))) :
    Calls Tryz.prog 139 #[v, .func (.func 104) #[] #[.pointer (some ⟨rb, 0, none⟩)]] w (SomeIdx (b.over room) w) := by
  obtain ⟨p, cap, rfl, hl, hr⟩ := hS.rests
  have HR := Lib.hid hr
  have HIH := Lib.hid IH
  have HRB := Lib.hid hrb
  have H1 := Lib.hid h1
  have H2 := Lib.hid h2
  have hen := deeper1_enters
  unfold Expr.Enters at hen
  have i1 : (b.len : Int) ≤ 1000000 := by omega
  clear hS IH hr hl hrb h1 h2
  go_enter Tryz.func139, Tryz.ntmps139
  go_wp2_with fail
  go_loopg [8] b.len (fun gg v8 wx => ∃ (q r : Blk), gg = r.len ∧ b.len = q.len + r.len ∧ v8 = .int .i64 (q.len : Nat) ∧ Hid (b = q.app r) ∧ Hid (q.over room = false) ∧ Hid (Rests w p b.len r q.len) ∧ Hid (Below w.heap.size w wx))
  case atStart => exact ⟨Blk.nil, b, rfl, by simp [Blk.len], rfl, Lib.hid rfl, Lib.hid (by simp [Blk.over]), HR, Lib.hid (Below.refl _ _)⟩
  case round =>
    obtain ⟨q, r, rfl, hlen, rfl, HE, HOV, HRr, HB⟩ := hrel
    obtain ⟨rm, hrm⟩ : ∃ k, room = k + 1 := ⟨room - 1, by have := H1.out; omega⟩
    cases r with
    | nil =>
      have e : b.len = q.len := by simpa [Blk.len] using hlen
      have HOB := Lib.hid (show b.over room = false by rw [HE.out, Blk.app_nil]; exact HOV.out)
      have i4 : ¬ ((q.len : Int) < (b.len : Int)) := by omega
      clear e hlen hrm
      go_wp2_with fail
      go_ret
      exact ⟨-1, rfl, by rw [HOB.out]; rfl, HB.out⟩
    | cons m t e r =>
      obtain ⟨g, o, rfl, hk, hr', av, bv, tv, ev, hst, hta, htb, hst1, hst2⟩ := HRr.out.next
      obtain ⟨pa, rfl, _⟩ := hta.ptr
      obtain ⟨pb, rfl, _⟩ := htb.ptr
      have HNX := Lib.hid hr'
      have HSZ := Lib.hid (show t.size < b.size ∧ e.size < b.size by rw [HE.out, Blk.size_app]; simp only [Blk.size]; omega)
      have HD1 := Lib.hid (deeper1_any m t e room H1.out H2.out pa pb tv ev wr rb (HRB.out.below HB.out HRB.out.lt) (hst1.below HB.out) (hst2.below HB.out) (t.over (room - 1)) (e.over (room - 1)) (HIH.out t HSZ.out.1) (HIH.out e HSZ.out.2))
      obtain ⟨c0, c1, c2, c3, c4, c5, c6, c7⟩ := hst.low HB.out
      have lg := World.block_lt_of_cell? _ _ c0
      obtain ⟨pt, ct, rfl, _⟩ := hst1.len
      obtain ⟨pe, ce, rfl, _⟩ := hst2.len
      have HE' := Lib.hid (show b = (q.snoc m t e).app r by rw [HE.out, Blk.snoc_app])
      have lq : (q.len : Int) < (b.len : Int) := by omega
      have lq0 : (0 : Int) ≤ (q.len : Int) := by omega
      have HLN := Lib.hid (show b.len = (q.snoc m t e).len + r.len by rw [Blk.len_snoc]; simp only [Blk.len] at hlen; omega)
      have HOA : Hid (b.over room = ((t.over (room - 1) || e.over (room - 1)) || r.over room) ∧ (q.snoc m t e).over room = (t.over (room - 1) || e.over (room - 1))) := Lib.hid (by
        have h := HOV.out
        rw [HE.out, Blk.snoc_eq, hrm, over_app, over_app]
        rw [hrm] at h
        rw [h]
        simp [Blk.over])
      clear hst hta htb hst1 hst2 hr' hlen hrm
      generalize (t.over (room - 1) || e.over (room - 1)) = bo at HD1 HOA
      unfold stAgg at HD1
      cases bo
      · go_wp2_with fail
        refine HD1.out.mono ?_
        rintro e' w2 ⟨rfl, hb⟩
        have HB2 := Lib.hid (HB.out.trans (hb.mono HB.out.size))
        clear hb
        go_wp2_with fail
        go_roundg r.len
        case measure => simp [Blk.len]
        case rel => exact ⟨q.snoc m t e, r, rfl, HLN.out, val_len q m t e, HE', Lib.hid HOA.out.2, Lib.hid (by rw [Blk.len_snoc]; exact HNX.out), HB2⟩
      · go_wp2_with fail
        refine HD1.out.mono ?_
        rintro e' w2 ⟨rfl, hb⟩
        have HB2 := Lib.hid (HB.out.trans (hb.mono HB.out.size))
        clear hb
        go_wp2_with fail
        go_ret
        exact ⟨q.len, rfl, by rw [HOA.out.1]; simp, HB2.out⟩
set_option maxRecDepth 100000 in
theorem contains_any (r : Bool) (p : Option Addr) (n cap : Nat) (c : Array Value) (w : World) (HI : Calls Tryz.prog 139 #[.slice p n cap, .func (.func 104) #[] c] w (SomeIdx r w)) :
    Calls Tryz.prog 103 #[.slice p n cap, .func (.func 104) #[] c] w fun e w' => Made (.returned (.bool r)) w e w' := by
  have H := Lib.hid HI
  clear HI
  go_enter Tryz.func103, Tryz.ntmps103
  go_wp2_with fail
  refine H.out.mono ?_
  rintro e w1 ⟨z, rfl, hz, hb⟩
  have HB := Lib.hid hb
  have HZ := Lib.hid hz
  clear hb hz
  go_wp2_with fail
  go_ret
  exact ⟨ret_bool HZ.out, HB.out⟩
set_option maxRecDepth 100000 in
theorem deeper_any : ∀ (n : Nat) (b : Blk), b.size < n → ∀ (room : Nat), room ≤ 1000 → DeepIs b (room : Nat) (b.over room) := by
  intro n
  induction n with
  | zero => intro b h; omega
  | succ n ih =>
    intro b hb room hr v w hS
    have h0 : Below w.heap.size w (w.alloc (.cells #[.int .i64 (room : Nat)] 3)) := (Below.refl _ _).alloc (Nat.le_refl _) _
    have hI : 1 ≤ room → ∀ W, Below (w.alloc (.cells #[.int .i64 (room : Nat)] 3)).heap.size (w.alloc (.cells #[.int .i64 (room : Nat)] 3)) W →
        Calls Tryz.prog 139 #[v, .func (.func 104) #[] #[.pointer (some ⟨w.heap.size, 0, none⟩)]] W (SomeIdx (b.over room) W) := fun h1 W hW =>
      index_any b room h1 hr v W w.heap.size ((Sits.new w 3 #[.int .i64 (room : Nat)]).below hW (by simp)) ((hS.below h0).below hW) fun c hc => by
        have := ih c (by omega) (room - 1) (by omega)
        rwa [show ((room - 1 : Nat) : Int) = (room : Int) - 1 by omega] at this
    have HI := Lib.hid hI
    have HB0 := Lib.hid h0
    obtain ⟨p, cap, rfl, hl⟩ := hS.len
    have hov : b.len = 0 → b.over room = false := fun h => by rw [Blk.len_zero h]; simp [Blk.over]
    have hov0 : b.len ≠ 0 → room = 0 → b.over room = true := fun h h' => by
      subst h'
      cases b with
      | nil => simp [Blk.len] at h
      | cons m t e r => simp [Blk.over]
    have i1 : (b.len : Int) ≤ 1000000 := by omega
    have i2 : (room : Int) ≤ 1000 := by omega
    clear hS h0 hI
    by_cases hb0 : b.len = 0
    · have HO := Lib.hid (hov hb0)
      have i3 : (b.len : Int) = 0 := by omega
      rw [hb0]
      clear hov hov0 i3 hb0 i1 hl
      go_enter Tryz.func58, Tryz.ntmps58
      go_wp2_with fail
      go_ret
      exact ⟨ret_bool HO.out.symm, HB0.out⟩
    · have i3 : (0 : Int) < (b.len : Int) := by omega
      by_cases hr0 : room = 0
      · have HO := Lib.hid (hov0 hb0 hr0)
        subst hr0
        clear hov hov0 hb0 hl
        go_enter Tryz.func58, Tryz.ntmps58
        go_wp2_with fail
        go_ret
        exact ⟨ret_bool HO.out.symm, HB0.out⟩
      · have HI2 := Lib.hid (contains_any (b.over room) p b.len cap _ _ (HI.out (by omega) _ (Below.refl _ _)))
        have z0 : ((room : Int) == 0) = false := beq_eq_false_iff_ne.2 (by omega)
        clear hov hov0 hb0 hl hr0 HI
        go_enter Tryz.func58, Tryz.ntmps58
        go_wp2_with fail
        refine HI2.out.mono ?_
        rintro e w1 ⟨rfl, hb⟩
        have HB := Lib.hid (HB0.out.trans (hb.mono HB0.out.size))
        clear hb
        go_wp2_with fail
        go_ret
        exact ⟨rfl, HB.out⟩
end Go.Proofs.YtpdpofoicdijlaaGreatDoor.Prog
