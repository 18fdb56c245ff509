/- Layer 4 (prog): Walk, with a closure that counts. -/
import Derived.Test.YtpdpofoicdijlaaGreatDoorStmG
import Derived.Test.YtpdpofoicdijlaaGreatDoorExprJ
namespace Go.Proofs.YtpdpofoicdijlaaGreatDoor.Prog
open Go.RowKit Go.Proofs.YtpdpofoicdijlaaGreatDoor.Mem Go.Proofs.YtpdpofoicdijlaaGreatDoor.Expr Go.Lib

/-- A function value is not nil. -/
theorem fn_isnt (F : FuncId) (f c : Array Value) (W : World) : (binOp .neq 64 (.func (.func F) f c) .nilFunc).run Tryz.prog W = .ok (.bool true) W := by
  have h : ∀ d : Nat, (Op.equalIn (d + 1) 64 (.func (.func F) f c) .nilFunc).run Tryz.prog W = .ok false W := fun d => by
    simp [Op.equalIn, run_underlying Tryz.underlying64]
  simp only [binOp]
  simp [Op.equal, Op.maxDepth, h 9999]
/-- The count, in a box. -/
abbrev Count (w : World) (g n : Nat) : Prop := Sits w g 3 #[.int .i64 (n : Nat)]
def Ticked (g n : Nat) (w : World) (e : Ending) (w' : World) : Prop := e = .returned (.tuple #[]) ∧ Count w' g n ∧ Keeps (fun x => x = g) w w'
/-- A closure that counts what it is told. -/
structure Ticks (F : FuncId) (g : Nat) : Prop where
  enters : Expr.Enters F
  call : ∀ (m : Mk) (pa pb pt pe : Option Addr) (nt ct ne ce n : Nat) (w : World), n ≤ 1000000000 → Count w g n → Calls Tryz.prog F #[stAgg m (.pointer pa) (.pointer pb) (.slice pt nt ct) (.slice pe ne ce), .pointer (some ⟨g, 0, none⟩)] w (Ticked g (n + 1) w)

def off (g : Nat) : Nat → Prop := fun x => x ≠ g
section
variable {U : Nat → Prop} {w w' : World} {p : Option Addr} {n k : Nat} {r : Blk}
/-- The rest of a block whose rows lie in blocks of U. -/
def Left (U : Nat → Prop) (w : World) (p : Option Addr) (n : Nat) (r : Blk) (k : Nat) : Prop :=
  k + r.len = n ∧ (r = .nil ∨ ∃ g o, p = some ⟨g, o, none⟩ ∧ U g ∧ ∃ cs, Holds U w r cs ∧ ∀ j u, cs[j]? = some u → w.cell? ⟨g, o + k * 8 + j, none⟩ = some u)
theorem Stand.left {b : Blk} {v : Value} (h : Stand U w b v) : ∃ p cap, v = .slice p b.len cap ∧ b.len ≤ 1000000 ∧ Left U w p b.len b 0 := by
  obtain ⟨cs, h1, h2⟩ := h
  rcases h1 with ⟨h0, p, cap, hv⟩ | ⟨g, o, cap, hv, hg, hl, hc⟩
  · exact ⟨p, cap, by rw [hv, h0], by omega, by omega, .inl (Blk.len_zero h0)⟩
  · exact ⟨_, cap, hv, hl, by omega, .inr ⟨g, o, rfl, hg, cs, h2, fun j u hu => by simpa using hc j u hu⟩⟩
theorem Left.next {m : Mk} {t e : Blk} (h : Left U w p n (.cons m t e r) k) :
    ∃ g o, p = some ⟨g, o, none⟩ ∧ U g ∧ k < n ∧ Left U w p n r (k + 1) ∧ ∃ av bv tv ev, StAt w g (o + k * 8) m av bv tv ev ∧ Tree w (trO m.a) av ∧ Tree w (trO m.b) bv ∧ Stand U w t tv ∧ Stand U w e ev := by
  obtain ⟨h1, h2⟩ := h
  rcases h2 with h2 | ⟨g, o, hp, hg, cs, h2, h3⟩
  · cases h2
  obtain ⟨av, bv, tv, ev, ct, ce, cr, rfl, ha, hb, hct, ht, hce, he, hr⟩ := h2
  simp only [Blk.len] at h1
  have at_ : ∀ j u, j < 8 → (stCells m av bv tv ev)[j]? = some u → w.cell? ⟨g, o + k * 8 + j, none⟩ = some u := fun j u hj hu =>
    h3 j u (by rw [List.getElem?_append_left (by simp [stCells]; omega)]; exact hu)
  refine ⟨g, o, hp, hg, by omega, ⟨by omega, .inr ⟨g, o, hp, hg, cr, hr, fun j u hu => ?_⟩⟩, av, bv, tv, ev, ⟨at_ 0 _ (by omega) rfl, at_ 1 _ (by omega) rfl, at_ 2 _ (by omega) rfl, at_ 3 _ (by omega) rfl, at_ 4 _ (by omega) rfl, at_ 5 _ (by omega) rfl, at_ 6 _ (by omega) rfl, at_ 7 _ (by omega) rfl⟩, ha, hb, ⟨ct, hct, ht⟩, ⟨ce, hce, he⟩⟩
  have := h3 (8 + j) u (by rw [List.getElem?_append_right (by simp [stCells])]; simpa [stCells] using hu)
  rw [show o + (k + 1) * 8 + j = o + k * 8 + (8 + j) by omega]
  exact this
end
section
variable {g : Nat} {w w' : World}
theorem tick_cell (h : Keeps (fun x => x = g) w w') : ∀ x, off g x → ∀ j u, w.cell? ⟨x, j, none⟩ = some u → w'.cell? ⟨x, j, none⟩ = some u := fun x hx j u hu => by
  rw [World.cell?_of_block (h.block x (World.block_lt_of_cell? _ _ hu) hx)]; exact hu
theorem StAt.tick {x o : Nat} {m : Mk} {av bv tv ev : Value} (h : StAt w x o m av bv tv ev) (hx : off g x) (k : Keeps (fun x => x = g) w w') : StAt w' x o m av bv tv ev := by
  obtain ⟨c0, c1, c2, c3, c4, c5, c6, c7⟩ := h
  have f := tick_cell k x hx
  exact ⟨f _ _ c0, f _ _ c1, f _ _ c2, f _ _ c3, f _ _ c4, f _ _ c5, f _ _ c6, f _ _ c7⟩
theorem Stand.tick {n : Nat} {b : Blk} {v : Value} (h : Stand (off g) w b v) (hn : Count w g n) (k : Keeps (fun x => x = g) w w') : Stand (off g) w' b v :=
  h.keep (Stable.keeps k fun b cs hs e => by subst e; exact absurd (hs.same hn).1 (by decide)) (tick_cell k)
theorem Kids.tick {n : Nat} {v : Value} {l : List Value} (h : Kids w v l) (hn : Count w g n) (k : Keeps (fun x => x = g) w w') : Kids w' v l := by
  rcases h with h | ⟨x, hv, hs⟩
  · exact .inl h
  · exact .inr ⟨x, hv, hs.keep k (fun e => absurd (hs.differ hn (by decide)) (by simpa using e))⟩
end
/-- What the blocks of a statement tell. -/
def ks (room : Nat) (l : List Blk) : Nat := (l.map (fun b => b.told room)).sum
theorem ks_take (room : Nat) (l : List Blk) (k : Nat) (b : Blk) (h : l[k]? = some b) : ks room (l.take (k + 1)) = ks room (l.take k) + b.told room := by
  unfold ks
  rw [List.take_add_one, h]
  simp
theorem told_cons (m : Mk) (t e r : Blk) {room : Nat} (h : 1 ≤ room) : (Blk.cons m t e r).told room = 1 + ks (room - 1) (kids m t e) + r.told room := by
  obtain ⟨room, rfl⟩ : ∃ x, room = x + 1 := ⟨room - 1, by omega⟩
  simp only [Blk.told, kids, ks, Nat.add_sub_cancel]
  split
  · simp
  · split <;> simp
theorem told_app (q r : Blk) {room : Nat} (h : 1 ≤ room) : (q.app r).told room = q.told room + r.told room := by
  induction q with
  | nil => simp [Blk.app, Blk.told]
  | cons m t e q _ _ ih => simp only [Blk.app, told_cons _ _ _ _ h, ih]; omega
theorem told_snoc (q : Blk) (m : Mk) (t e : Blk) {room : Nat} (h : 1 ≤ room) : (q.snoc m t e).told room = q.told room + 1 + ks (room - 1) (kids m t e) := by
  rw [Blk.snoc_eq, told_app _ _ h, told_cons _ _ _ _ h]; simp [Blk.told]; omega
theorem ks_le (room : Nat) (l : List Blk) (k : Nat) : ks room (l.take k) ≤ ks room l := by
  induction l generalizing k with
  | nil => simp
  | cons x l ih =>
    cases k with
    | zero => simp [ks]
    | succ k => have := ih k; simp only [ks, List.take_succ_cons, List.map_cons, List.sum_cons] at this ⊢; omega
set_option maxRecDepth 100000 in
set_option maxHeartbeats 1000000 in
theorem walk_step (F : FuncId) (g0 : Nat) (T : Ticks F g0) (b : Blk) (room : Nat) (hr : room ≤ 1000) (v : Value) (n : Nat) (w : World) (hn : n + b.told room ≤ 1000000000) (hC : Count w g0 n) (hS : Stand (off g0) w b v)
    (IH : ∀ (c : Blk), c.size < b.size → 1 ≤ room → ∀ (v : Value) (n : Nat) (w : World), n + c.told (room - 1) ≤ 1000000000 → Count w g0 n → Stand (off g0) w c v → Calls Tryz.prog 50 #[v, .int .i64 ((room : Int) - 1), .func (.func F) #[] #[.pointer (some ⟨g0, 0, none⟩)]] w (Ticked g0 (n + c.told (room - 1)) w)) :
    Calls Tryz.prog 50 #[v, .int .i64 (room : Nat), .func (.func F) #[] #[.pointer (some ⟨g0, 0, none⟩)]] w (Ticked g0 (n + b.told room) w) := by
  obtain ⟨p, cap, rfl, hl, hR⟩ := hS.left
  have HC := Lib.hid hC
  by_cases h0 : room = 0
  · subst h0
    have HZ := Lib.hid b.told_zero
    clear hS IH hl hR hC hn hr
    go_enter Tryz.func50, Tryz.ntmps50
    go_wp2_with fail
    go_end0
    exact ⟨rfl, by rw [HZ.out]; exact HC.out, Keeps.refl _ _⟩
  have h1 : 1 ≤ room := by omega
  have H1 := Lib.hid h1
  have HR := Lib.hid hR
  have HS := Lib.hid hS
  have HIH := Lib.hid IH
  have HT := Lib.hid T
  have HN := Lib.hid hn
  have en := T.enters
  unfold Expr.Enters at en
  have i1 : (b.len : Int) ≤ 1000000 := by omega
  have i2 : ((room : Int) == 0) = false := beq_eq_false_iff_ne.2 (by omega)
  have i3 : (room : Int) ≤ 1000 := by omega
  have i4 : (1 : Int) ≤ (room : Int) := by omega
  clear hS IH hR hl hr hC T hn h0 h1
  go_enter Tryz.func50, Tryz.ntmps50
  go_wp2_with fail
  go_loopg [14] b.len (fun gg v14 wx => ∃ (q r : Blk), gg = r.len ∧ b.len = q.len + r.len ∧ v14 = .int .i64 (q.len : Nat) ∧ Hid (b = q.app r) ∧ Hid (Left (off g0) w p b.len r q.len) ∧ Hid (Count wx g0 (n + q.told room)) ∧ Hid (Keeps (fun x => x = g0) w wx))
  case atStart => exact ⟨Blk.nil, b, rfl, by simp [Blk.len], rfl, Lib.hid rfl, HR, HC, Lib.hid (Keeps.refl _ _)⟩
  case round =>
    obtain ⟨q, r, rfl, hlen, rfl, HE, HRr, HQ, HB⟩ := hrel
    cases r with
    | nil =>
      have e : b.len = q.len := by simpa [Blk.len] using hlen
      have HEq := Lib.hid (show b = q by rw [HE.out, Blk.app_nil])
      have i4 : ¬ ((q.len : Int) < (b.len : Int)) := by omega
      clear e hlen
      go_wp2_with fail
      go_end0
      exact ⟨rfl, by rw [HEq.out]; exact HQ.out, HB.out⟩
    | cons m t e r =>
      obtain ⟨g, o, rfl, hg, hk, hr', av, bv, tv, ev, hst, hta, htb, hst1, hst2⟩ := HRr.out.next
      obtain ⟨pa, rfl, _⟩ := hta.ptr
      obtain ⟨pb, rfl, _⟩ := htb.ptr
      have HTT := Lib.hid hst1
      have HEE := Lib.hid hst2
      have HNX := Lib.hid hr'
      obtain ⟨c0, c1, c2, c3, c4, c5, c6, c7⟩ := hst.tick hg HB.out
      have lg := World.block_lt_of_cell? _ _ c0
      obtain ⟨pt, ct, rfl, _⟩ := hst1.len
      obtain ⟨pe, ce, rfl, _⟩ := hst2.len
      have HSZ := Lib.hid (show t.size < b.size ∧ e.size < b.size by rw [HE.out, Blk.size_app]; simp only [Blk.size]; omega)
      have HE' := Lib.hid (show b = (q.snoc m t e).app r by rw [HE.out, Blk.snoc_app])
      have HTL := Lib.hid (show q.told room + 1 + ks (room - 1) (kids m t e) ≤ b.told room by rw [HE.out, told_app _ _ H1.out, told_cons _ _ _ _ H1.out]; omega)
      have lq : (q.len : Int) < (b.len : Int) := by omega
      have lq0 : (0 : Int) ≤ (q.len : Int) := by omega
      have HLN := Lib.hid (show b.len = (q.snoc m t e).len + r.len by rw [Blk.len_snoc]; simp only [Blk.len] at hlen; omega)
      clear hst hta htb hst1 hst2 hr' hlen
      have HBL := Lib.hid (fun W => blocks_any m (.pointer pa) (.pointer pb) pa pb rfl rfl pt pe t.len ct e.len ce W)
      have HB0 := Lib.hid (HB.out.alloc (.cells #[.int .u8 m.kind, .int .u8 m.reg, .int .u8 m.mode, .int .u8 m.loc, .pointer pa, .pointer pb, .slice pt t.len ct, .slice pe e.len ce] 62))
      have HQ0 := Lib.hid (HQ.out.alloc (.cells #[.int .u8 m.kind, .int .u8 m.reg, .int .u8 m.mode, .int .u8 m.loc, .pointer pa, .pointer pb, .slice pt t.len ct, .slice pe e.len ce] 62))
      have HBX := Lib.hid (Sits.new wr 62 #[.int .u8 m.kind, .int .u8 m.reg, .int .u8 m.mode, .int .u8 m.loc, .pointer pa, .pointer pb, .slice pt t.len ct, .slice pe e.len ce])
      clear hg hk
      go_wp2_with fail
      change Calls _ F #[stAgg m (.pointer pa) (.pointer pb) (.slice pt t.len ct) (.slice pe e.len ce), .pointer (some ⟨g0, 0, none⟩)] (wr.alloc (.cells #[.int .u8 m.kind, .int .u8 m.reg, .int .u8 m.mode, .int .u8 m.loc, .pointer pa, .pointer pb, .slice pt t.len ct, .slice pe e.len ce] 62)) _
      generalize wr.alloc (.cells #[.int .u8 m.kind, .int .u8 m.reg, .int .u8 m.mode, .int .u8 m.loc, .pointer pa, .pointer pb, .slice pt t.len ct, .slice pe e.len ce] 62) = wa at HB0 HQ0 HBX ⊢
      refine (HT.out.call m pa pb pt pe _ _ _ _ _ wa (by have := HN.out; have := HTL.out; omega) HQ0.out).mono ?_
      rintro e' w2 ⟨rfl, hc, hk⟩
      have HQ2 := Lib.hid hc
      have HB2 := Lib.hid (HB0.out.trans hk)
      have S1 := HBX.out.keep hk (fun e => absurd (HBX.out.differ HQ0.out (by decide)) (by simpa using e))
      have s1 := S1.lt
      have q0 : w2.cell? ⟨wr.heap.size, 0, none⟩ = some (.int .u8 m.kind) := S1.cell 0
      have q1 : w2.cell? ⟨wr.heap.size, 1, none⟩ = some (.int .u8 m.reg) := S1.cell 1
      have q2 : w2.cell? ⟨wr.heap.size, 2, none⟩ = some (.int .u8 m.mode) := S1.cell 2
      have q3 : w2.cell? ⟨wr.heap.size, 3, none⟩ = some (.int .u8 m.loc) := S1.cell 3
      have q4 : w2.cell? ⟨wr.heap.size, 4, none⟩ = some (.pointer pa) := S1.cell 4
      have q5 : w2.cell? ⟨wr.heap.size, 5, none⟩ = some (.pointer pb) := S1.cell 5
      have q6 : w2.cell? ⟨wr.heap.size, 6, none⟩ = some (.slice pt t.len ct) := S1.cell 6
      have q7 : w2.cell? ⟨wr.heap.size, 7, none⟩ = some (.slice pe e.len ce) := S1.cell 7
      clear S1 hc hk c0 c1 c2 c3 c4 c5 c6 c7 lg
      generalize wr.heap.size = gx at q0 q1 q2 q3 q4 q5 q6 q7 s1 ⊢
      go_wp2_with fail
      change Calls _ _ #[stAgg m (.pointer pa) (.pointer pb) (.slice pt t.len ct) (.slice pe e.len ce)] w2 _
      refine (HBL.out w2).mono ?_
      rintro e' w3 ⟨kv, rfl, hkv, hb⟩
      have HB3 := Lib.hid (HB2.out.trans (Keeps.of_below hb))
      have HQ3 := Lib.hid (HQ2.out.below hb HQ2.out.lt)
      have HKV := Lib.hid hkv
      obtain ⟨pk, rfl⟩ := hkv.len
      have hkl := kids_len m t e (Value.slice pt t.len ct) (Value.slice pe e.len ce)
      clear hb hkv q0 q1 q2 q3 q4 q5 q6 q7 s1 HBL HBX HB0 HQ0 HB2 HQ2
      have ik : ((kids m (Value.slice pt t.len ct) (Value.slice pe e.len ce)).length : Int) ≤ 2 := by omega
      have HKL := Lib.hid hkl
      clear hkl
      go_wp2_with fail
      go_loopg [24] (kids m t e).length (fun gg v24 wx => ∃ j, j ≤ (kids m t e).length ∧ gg = (kids m t e).length - j ∧ v24 = .int .i64 (j : Nat) ∧ Hid (Count wx g0 (n + q.told room + 1 + ks (room - 1) ((kids m t e).take j))) ∧ Hid (Keeps (fun x => x = g0) w wx) ∧ Hid (Keeps (fun x => x = g0) w3 wx))
      case atStart => exact ⟨0, by omega, by omega, rfl, Lib.hid (show Count w3 g0 (n + q.told room + 1 + 0) from HQ3.out), HB3, Lib.hid (Keeps.refl _ _)⟩
      case round =>
        obtain ⟨j, hj, rfl, rfl, HQj, HBj, HB3j⟩ := hrel
        have HK3 := Lib.hid (HKV.out.tick HQ3.out HB3j.out)
        by_cases hlt : j < (kids m t e).length
        · have hlt' : j < (kids m (Value.slice pt t.len ct) (Value.slice pe e.len ce)).length := by rw [← HKL.out.1]; exact hlt
          have hu : (kids m (Value.slice pt t.len ct) (Value.slice pe e.len ce))[j]? = some (kids m (Value.slice pt t.len ct) (Value.slice pe e.len ce))[j] := List.getElem?_eq_getElem hlt'
          have hc : (kids m t e)[j]? = some (kids m t e)[j] := List.getElem?_eq_getElem hlt
          have HSt := Lib.hid (kids_stand m (HTT.out.tick HC.out HBj.out) (HEE.out.tick HC.out HBj.out) hc hu)
          have HCS := Lib.hid (show (kids m t e)[j].size < b.size by rcases kids_map m t e j _ hc with h | h <;> rw [h] <;> first | exact HSZ.out.1 | exact HSZ.out.2)
          have HDT := Lib.hid (ks_take (room - 1) _ _ _ hc)
          have HLE := Lib.hid (ks_le (room - 1) (kids m t e) (j + 1))
          obtain ⟨p1, n1, c1, hu1⟩ := kids_slice rfl rfl hu
          rw [hu1] at HSt hu
          clear hu1
          obtain ⟨gk, e1, ck, hs⟩ := HK3.out.at hu
          injection e1 with e1 _ _
          subst e1
          have lk := hs.lt
          have jj : (j : Int) < ((kids m (Value.slice pt t.len ct) (Value.slice pe e.len ce)).length : Int) := by omega
          generalize (kids m t e)[j] = c at HSt HCS HDT
          clear hu hc hs hlt'
          have HCL := Lib.hid (HIH.out c HCS.out H1.out _ _ _ (by have := HN.out; have := HTL.out; have := HLE.out; have := HDT.out; show _ + c.told (room - 1) ≤ _; omega) HQj.out HSt.out)
          have HJN := Lib.hid (show j + 1 ≤ (kids m t e).length by omega)
          go_wp2_with fail
          refine HCL.out.mono ?_
          rintro e' w4 ⟨rfl, hc, hk⟩
          have HQ4 := Lib.hid hc
          have HB4 := Lib.hid (HBj.out.trans hk)
          have HB34 := Lib.hid (HB3j.out.trans hk)
          clear hc hk
          go_wp2_with fail
          go_roundg ((kids m t e).length - (j + 1))
          case measure => omega
          case rel => exact ⟨j + 1, HJN.out, rfl, by go_num, Lib.hid (by rw [HDT.out, ← Nat.add_assoc]; exact HQ4.out), HB4, HB34⟩
        · obtain rfl : j = (kids m t e).length := by omega
          have jj : ¬ (((kids m t e).length : Int) < ((kids m (Value.slice pt t.len ct) (Value.slice pe e.len ce)).length : Int)) := by have := HKL.out; omega
          go_wp2_with fail
          go_roundg r.len
          case measure => simp [Blk.len]
          case rel => exact ⟨q.snoc m t e, r, rfl, HLN.out, val_int (by rw [Blk.len_snoc]; rfl), HE', Lib.hid (by rw [Blk.len_snoc]; exact HNX.out), Lib.hid (by have := HQj.out; rw [List.take_length] at this; rw [told_snoc _ _ _ _ H1.out, ← Nat.add_assoc, ← Nat.add_assoc]; exact this), HBj⟩
theorem walk_any (F : FuncId) (g0 : Nat) (T : Ticks F g0) : ∀ (k : Nat) (b : Blk), b.size < k → ∀ (room : Nat), room ≤ 1000 → ∀ (v : Value) (n : Nat) (w : World), n + b.told room ≤ 1000000000 → Count w g0 n → Stand (off g0) w b v →
    Calls Tryz.prog 50 #[v, .int .i64 (room : Nat), .func (.func F) #[] #[.pointer (some ⟨g0, 0, none⟩)]] w (Ticked g0 (n + b.told room) w) := by
  intro k
  induction k with
  | zero => intro b h; omega
  | succ k ih =>
    intro b hb room hr v n w hn hC hS
    refine walk_step F g0 T b room hr v n w hn hC hS fun c hc hm v n w hn hC hS => ?_
    have := ih c (by omega) (room - 1) (by omega) v n w hn hC hS
    rwa [show ((room - 1 : Nat) : Int) = (room : Int) - 1 by omega] at this
set_option maxRecDepth 100000 in
theorem WalkSt_any (F : FuncId) (g0 : Nat) (T : Ticks F g0) (b : Blk) (v : Value) (n : Nat) (w : World) (hn : n + b.told 8 ≤ 1000000000) (hC : Count w g0 n) (hS : Stand (off g0) w b v) :
    Calls Tryz.prog 20 #[v, .func (.func F) #[] #[.pointer (some ⟨g0, 0, none⟩)]] w (Ticked g0 (n + b.told 8) w) := by
  have H := Lib.hid (walk_any F g0 T (b.size + 1) b (by omega) 8 (by omega) v n w hn hC hS)
  obtain ⟨p, cap, rfl, _⟩ := hS.len
  have hf := fn_isnt F #[] #[.pointer (some ⟨g0, 0, none⟩)]
  clear hS hC hn T
  go_enter Tryz.func20, Tryz.ntmps20
  go_wp2_with fail
  refine H.out.mono ?_
  rintro e w1 ⟨rfl, hc, hk⟩
  have HB := Lib.hid hk
  have HC := Lib.hid hc
  clear hc hk
  go_wp2_with fail
  go_end0
  exact ⟨rfl, HC.out, HB.out⟩
end Go.Proofs.YtpdpofoicdijlaaGreatDoor.Prog
