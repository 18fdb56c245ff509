/- Layer 4 (prog): Nest. -/
import Derived.Test.YtpdpofoicdijlaaGreatDoorStmF
namespace Go.Proofs.YtpdpofoicdijlaaGreatDoor.Prog
open Go.RowKit Go.Proofs.YtpdpofoicdijlaaGreatDoor.Mem Go.Proofs.YtpdpofoicdijlaaGreatDoor.Expr Go.Lib

theorem val_int {k : IntKind} {a b : Int} (h : a = b) : Value.int k a = Value.int k b := by rw [h]
theorem kids_slice {m : Mk} {tv ev : Value} {pt pe : Option Addr} {nt ct ne ce k : Nat} {u : Value} (ht : tv = .slice pt nt ct) (he : ev = .slice pe ne ce) (h : (kids m tv ev)[k]? = some u) : ∃ p n c, u = .slice p n c := by
  subst ht he
  unfold kids at h
  split at h
  · rcases k with _ | _ | k
    · simp at h; exact ⟨_, _, _, h.symm⟩
    · simp at h; exact ⟨_, _, _, h.symm⟩
    · simp at h
  · split at h
    · rcases k with _ | k
      · simp at h; exact ⟨_, _, _, h.symm⟩
      · simp at h
    · simp at h
set_option maxRecDepth 100000 in
set_option maxHeartbeats 1000000 in
theorem nest_step (b : Blk) (most : Nat) (h1 : 1 ≤ most) (h2 : most ≤ 1000) (v : Value) (w : World) (hS : Stand any_ w b v)
    (IH : ∀ (c : Blk), c.size < b.size → 2 ≤ most → ∀ (v : Value) (w : World), Stand any_ w c v → Calls Tryz.prog 51 #[v, .int .i64 ((most : Int) - 1)] w fun e w' => Made (.returned (.int .i64 (min (most - 1) c.deep : Nat))) w e w') :
    Calls Tryz.prog 51 #[v, .int .i64 (most : Nat)] w fun e w' => Made (.returned (.int .i64 (min most b.deep : Nat))) w e w' := by
  obtain ⟨p, cap, rfl, hl, hr⟩ := hS.rests
  have HR := Lib.hid hr
  have HIH := Lib.hid IH
  have i1 : (b.len : Int) ≤ 1000000 := by omega
  have i2 : (1 : Int) ≤ (most : Int) := by omega
  have i3 : (most : Int) ≤ 1000 := by omega
  have HM1 := Lib.hid h1
  have HM2 := Lib.hid h2
  clear hS IH hr hl h1 h2
  go_enter Tryz.func51, Tryz.ntmps51
  go_wp2_with fail
  go_loopg [5, 12] b.len (fun gg v5 v12 wx => ∃ (q r : Blk), gg = r.len ∧ b.len = q.len + r.len ∧ v12 = .int .i64 (q.len : Nat) ∧ v5 = .int .i64 (min most q.deep : Nat) ∧ Hid (b = q.app r) ∧ Hid (Rests w p b.len r q.len) ∧ Hid (Below w.heap.size w wx))
  case atStart => exact ⟨Blk.nil, b, rfl, by simp [Blk.len], rfl, val_int (by have := HM1.out; simp only [Blk.deep]; omega), Lib.hid rfl, HR, Lib.hid (Below.refl _ _)⟩
  case round =>
    obtain ⟨q, r, rfl, hlen, rfl, rfl, HE, HRr, HB⟩ := hrel
    cases r with
    | nil =>
      have e : b.len = q.len := by simpa [Blk.len] using hlen
      have HEq := Lib.hid (show b = q by rw [HE.out, Blk.app_nil])
      have i4 : ¬ ((q.len : Int) < (b.len : Int)) := by omega
      clear e hlen
      go_wp2_with fail
      go_ret
      exact ⟨ret_int (by rw [HEq.out]), HB.out⟩
    | cons m t e r =>
      obtain ⟨g, o, rfl, hk, hr', av, bv, tv, ev, hst, hta, htb, hst1, hst2⟩ := HRr.out.next
      obtain ⟨pa, rfl, _⟩ := hta.ptr
      obtain ⟨pb, rfl, _⟩ := htb.ptr
      have HTT := Lib.hid hst1
      have HEE := Lib.hid hst2
      have HNX := Lib.hid hr'
      obtain ⟨c0, c1, c2, c3, c4, c5, c6, c7⟩ := hst.low HB.out
      have lg := World.block_lt_of_cell? _ _ c0
      obtain ⟨pt, ct, rfl, _⟩ := hst1.len
      obtain ⟨pe, ce, rfl, _⟩ := hst2.len
      have HSZ := Lib.hid (show t.size < b.size ∧ e.size < b.size by rw [HE.out, Blk.size_app]; simp only [Blk.size]; omega)
      have HE' := Lib.hid (show b = (q.snoc m t e).app r by rw [HE.out, Blk.snoc_app])
      have lq : (q.len : Int) < (b.len : Int) := by omega
      have lq0 : (0 : Int) ≤ (q.len : Int) := by omega
      have HLN := Lib.hid (show b.len = (q.snoc m t e).len + r.len by rw [Blk.len_snoc]; simp only [Blk.len] at hlen; omega)
      clear hst hta htb hst1 hst2 hr' hlen
      have HBL := Lib.hid (fun W => blocks_any m (.pointer pa) (.pointer pb) pa pb rfl rfl pt pe t.len ct e.len ce W)
      have hb0 : Below wr.heap.size wr (wr.alloc (.cells #[.int .u8 m.kind, .int .u8 m.reg, .int .u8 m.mode, .int .u8 m.loc, .pointer pa, .pointer pb, .slice pt t.len ct, .slice pe e.len ce] 62)) := (Below.refl _ _).alloc (Nat.le_refl _) _
      have HB0 := Lib.hid (HB.out.trans (hb0.mono HB.out.size))
      clear hb0
      go_wp2_with fail
      change Calls _ _ #[stAgg m (.pointer pa) (.pointer pb) (.slice pt t.len ct) (.slice pe e.len ce)] (wr.alloc (.cells #[.int .u8 m.kind, .int .u8 m.reg, .int .u8 m.mode, .int .u8 m.loc, .pointer pa, .pointer pb, .slice pt t.len ct, .slice pe e.len ce] 62)) _
      generalize wr.alloc (.cells #[.int .u8 m.kind, .int .u8 m.reg, .int .u8 m.mode, .int .u8 m.loc, .pointer pa, .pointer pb, .slice pt t.len ct, .slice pe e.len ce] 62) = wa at HB0 ⊢
      refine (HBL.out wa).mono ?_
      rintro e' w2 ⟨kv, rfl, hkv, hb⟩
      have HB2 := Lib.hid (HB0.out.trans (hb.mono HB0.out.size))
      have HKV := Lib.hid hkv
      obtain ⟨pk, rfl⟩ := hkv.len
      have hkl := kids_len m t e (Value.slice pt t.len ct) (Value.slice pe e.len ce)
      clear hb hkv c0 c1 c2 c3 c4 c5 c6 c7 lg HBL
      have ik : ((kids m (Value.slice pt t.len ct) (Value.slice pe e.len ce)).length : Int) ≤ 2 := by omega
      have HKL := Lib.hid hkl
      clear hkl
      go_wp2_with fail
      go_loopg [5, 19] (kids m t e).length (fun gg v5 v19 wx => ∃ j, j ≤ (kids m t e).length ∧ gg = (kids m t e).length - j ∧ v19 = .int .i64 (j : Nat) ∧ v5 = .int .i64 (min most (max q.deep (kd ((kids m t e).take j))) : Nat) ∧ Hid (Below w.heap.size w wx) ∧ Hid (Below w2.heap.size w2 wx))
      case atStart => exact ⟨0, by omega, by omega, rfl, val_int (by simp only [List.take_zero, kd, List.foldr_nil]; have := q.deep_pos; omega), HB2, Lib.hid (Below.refl _ _)⟩
      case round =>
        obtain ⟨j, hj, rfl, rfl, rfl, HBj, HB2j⟩ := hrel
        have HK3 := Lib.hid (HKV.out.below HB2j.out)
        by_cases hlt : j < (kids m t e).length
        · have hlt' : j < (kids m (Value.slice pt t.len ct) (Value.slice pe e.len ce)).length := by rw [← HKL.out.1]; exact hlt
          have hu : (kids m (Value.slice pt t.len ct) (Value.slice pe e.len ce))[j]? = some (kids m (Value.slice pt t.len ct) (Value.slice pe e.len ce))[j] := List.getElem?_eq_getElem hlt'
          have hc : (kids m t e)[j]? = some (kids m t e)[j] := List.getElem?_eq_getElem hlt
          have HSt := Lib.hid (kids_stand m (HTT.out.below HBj.out) (HEE.out.below HBj.out) hc hu)
          have HCS := Lib.hid (show (kids m t e)[j].size < b.size by rcases kids_map m t e j _ hc with h | h <;> rw [h] <;> first | exact HSZ.out.1 | exact HSZ.out.2)
          have HDT := Lib.hid (kd_take _ _ _ hc)
          obtain ⟨p1, n1, c1, hu1⟩ := kids_slice rfl rfl hu
          rw [hu1] at HSt hu
          clear hu1
          obtain ⟨gk, e1, ck, hs⟩ := HK3.out.at hu
          injection e1 with e1 _ _
          subst e1
          have lk := hs.lt
          have jj : (j : Int) < ((kids m (Value.slice pt t.len ct) (Value.slice pe e.len ce)).length : Int) := by omega
          generalize (kids m t e)[j] = c at HSt HCS HDT
          have hle := kd_le (kids m t e) j
          have HDA := Lib.hid (show kd (kids m t e) ≤ b.deep ∧ q.deep ≤ b.deep by rw [HE'.out, deep_app, deep_snoc]; omega)
          clear hu hc hs hlt'
          by_cases hD : min most (max q.deep (kd ((kids m t e).take j))) = most
          · have HDD := Lib.hid (show most = min most b.deep by have := HDA.out; omega)
            rw [hD]
            clear hD hle
            go_wp2_with fail
            go_ret
            exact ⟨ret_int (by rw [← HDD.out]), HBj.out⟩
          · have hp := q.deep_pos
            have h2m : 2 ≤ most := by omega
            have HCL := Lib.hid (HIH.out c HCS.out h2m _ _ HSt.out)
            generalize hDD : min most (max q.deep (kd ((kids m t e).take j))) = D at hD
            have hne : ((D : Int) == (most : Int)) = false := beq_eq_false_iff_ne.2 (by omega)
            have hDb : (D : Int) ≤ 1000 := by omega
            have HD := Lib.hid hDD
            have HPP := Lib.hid hp
            generalize hX : min (most - 1) c.deep = X at HCL
            have hXb : (X : Int) ≤ 1000 := by omega
            have hXX := Lib.hid hX
            clear hD hDD hle hp h2m hX
            go_wp2_with fail
            refine HCL.out.mono ?_
            rintro e' w4 ⟨rfl, hb⟩
            have HB4 := Lib.hid (HBj.out.trans (hb.mono HBj.out.size))
            have HB24 := Lib.hid (HB2j.out.trans (hb.mono HB2j.out.size))
            clear hb
            go_wp2_with fail
            go_roundg ((kids m t e).length - (j + 1))
            case measure => omega
            case rel => exact ⟨j + 1, by omega, rfl, by go_num, val_int (by rw [HDT.out]; have := HD.out; have := hXX.out; have := HM1.out; omega), HB4, HB24⟩
        · obtain rfl : j = (kids m t e).length := by omega
          have jj : ¬ (((kids m t e).length : Int) < ((kids m (Value.slice pt t.len ct) (Value.slice pe e.len ce)).length : Int)) := by have := HKL.out; omega
          go_wp2_with fail
          go_roundg r.len
          case measure => simp [Blk.len]
          case rel => exact ⟨q.snoc m t e, r, rfl, HLN.out, val_int (by rw [Blk.len_snoc]; rfl), val_int (by rw [deep_snoc]), HE', Lib.hid (by rw [Blk.len_snoc]; exact HNX.out), HBj⟩
theorem nest_any : ∀ (n : Nat) (b : Blk), b.size < n → ∀ (most : Nat), 1 ≤ most → most ≤ 1000 → ∀ (v : Value) (w : World), Stand any_ w b v → Calls Tryz.prog 51 #[v, .int .i64 (most : Nat)] w fun e w' => Made (.returned (.int .i64 (min most b.deep : Nat))) w e w' := by
  intro n
  induction n with
  | zero => intro b h; omega
  | succ n ih =>
    intro b hb most h1 h2 v w hS
    refine nest_step b most h1 h2 v w hS fun c hc hm v w hS => ?_
    have := ih c (by omega) (most - 1) (by omega) (by omega) v w hS
    rwa [show ((most - 1 : Nat) : Int) = (most : Int) - 1 by omega] at this
set_option maxRecDepth 100000 in
theorem Nest_any (b : Blk) (v : Value) (w : World) (hS : Stand any_ w b v) : Calls Tryz.prog 22 #[v] w fun e w' => Made (.returned (.int .i64 (min 9 b.deep : Nat))) w e w' := by
  have H := Lib.hid (nest_any (b.size + 1) b (by omega) 9 (by omega) (by omega) v w hS)
  obtain ⟨p, cap, rfl, _⟩ := hS.len
  clear hS
  go_enter Tryz.func22, Tryz.ntmps22
  go_wp2_with fail
  refine H.out.mono ?_
  rintro e w1 ⟨rfl, hb⟩
  have HB := Lib.hid hb; clear hb
  go_wp2_with fail
  go_ret
  exact ⟨rfl, HB.out⟩
end Go.Proofs.YtpdpofoicdijlaaGreatDoor.Prog
