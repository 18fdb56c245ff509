/- Layer 11 (memory): the contracts of has, may, IndexFunc, ContainsFunc and their closures. -/
import Derived.Test.YtgkgpehjedmejaaMmrB
namespace Go.Proofs.Ytgkgpehjedmejaa.Mmr
open Go.RowKit Go.Proofs.Ytgkgpehjedmejaa.Mem Go.Proofs.Ytgkgpehjedmejaa.Flow

theorem one_low (w : World) (o : Obj) : Below w.heap.size w (w.alloc o) := Vew.one_low w o
theorem two_low (w : World) (o o' : Obj) : Below w.heap.size w ((w.alloc o).alloc o') := Spn.below2 w o o'
set_option maxRecDepth 100000 in
theorem has_any (p : Nat → Option Addr) (c : Nat → Nat) (m : Mm) (loc : Int) (w : World) :
    Calls Try.prog 41 #[memV p c m, .int .i64 loc] w (Made (.returned (.bool (hasF m loc))) w) := by
  by_cases h0 : 0 ≤ loc
  · by_cases h1 : loc < (m.n : Nat)
    · have HF : Hid (hasF m loc = true) := Lib.hid (decide_eq_true ⟨h0, h1⟩)
      go_enter Try.func41, Try.ntmps41
      go_wp2
      go_ret
      exact ⟨ret_bool HF.out.symm, one_low _ _⟩
    · have HF : Hid (hasF m loc = false) := Lib.hid (decide_eq_false (by omega))
      go_enter Try.func41, Try.ntmps41
      go_wp2
      go_ret
      exact ⟨ret_bool HF.out.symm, one_low _ _⟩
  · have HF : Hid (hasF m loc = false) := Lib.hid (decide_eq_false (by omega))
    go_enter Try.func41, Try.ntmps41
    go_wp2
    go_ret
    exact ⟨ret_bool HF.out.symm, one_low _ _⟩

/-! ### Function values that tell yes or no of an item -/
def EntersI (F : FuncId) : Prop := ∀ (args : Array Value) (W : World), (callFunc F args).run Try.prog W = .ok (.enter F args) W
structure TellsI (F : FuncId) (fr c : Array Value) (φ : It → Bool) (J : World → Prop) (L : It → Prop) : Prop where
  enters : EntersI F
  keep : ∀ w w', J w → Below w.heap.size w w' → J w'
  call : ∀ (x : It) (w : World), L x → J w → Calls Try.prog F (fr.push (itV x) ++ c) w (Made (.returned (.bool (φ x))) w)
theorem idx_lt {φ : It → Bool} {l : List It} : idxF φ l = -1 ∨ 0 ≤ idxF φ l := by unfold idxF; split <;> omega
theorem idx_none {φ : It → Bool} {l : List It} (h : ∀ x ∈ l, φ x = false) : idxF φ l = -1 := by
  unfold idxF
  rw [List.findIdx?_eq_none_iff.2 (fun x hx => h x hx)]
theorem idx_some {φ : It → Bool} {l : List It} {k : Nat} {x : It} (hx : l[k]? = some x) (h : φ x = true) (hb : ∀ j y, j < k → l[j]? = some y → φ y = false) : idxF φ l = (k : Nat) := by
  unfold idxF
  obtain ⟨hk, rfl⟩ := List.getElem?_eq_some_iff.1 hx
  rw [List.findIdx?_eq_some_iff_getElem.2 ⟨hk, h, fun j hj => by
    have := hb j _ hj (List.getElem?_eq_getElem (by omega))
    rw [this]; simp⟩]
set_option maxRecDepth 100000 in
set_option maxHeartbeats 1000000 in
theorem index_any {F : FuncId} {fr cs : Array Value} {φ : It → Bool} {J : World → Prop} {L : It → Prop} (S : TellsI F fr cs φ J L) (l : List It) (p : Option Addr) (c : Nat) (w : World) (hn : l.length ≤ 1000) (hL : ∀ x ∈ l, L x) (hI : Its w p l) (hJ : J w) :
    Calls Try.prog 44 #[.slice p l.length c, .func (.func F) fr cs] w (Made (.returned (.int .i64 (idxF φ l))) w) := by
  have en := S.enters
  unfold EntersI at en
  have HS := Lib.hid S
  have HI := Lib.hid hI
  have HJ := Lib.hid hJ
  have HL := Lib.hid hL
  have i1 : (l.length : Int) ≤ 1000 := by omega
  clear S hI hJ hL hn
  go_enter Try.func44, Try.ntmps44
  go_wp2_with fail
  go_loopg [8] l.length (fun gg v8 wx => ∃ k, k ≤ l.length ∧ gg = l.length - k ∧ v8 = .int .i64 (k : Nat) ∧ Hid (∀ j y, j < k → l[j]? = some y → φ y = false) ∧ Hid (Below w.heap.size w wx))
  case atStart => exact ⟨0, by omega, by omega, rfl, Lib.hid (fun j y h => by omega), Lib.hid (Below.refl _ _)⟩
  case round =>
    obtain ⟨k, hk, rfl, rfl, HF, HB⟩ := hrel
    by_cases hlt : k < l.length
    · have hx : l[k]? = some l[k] := List.getElem?_eq_getElem hlt
      have HX := Lib.hid hx
      have HLx := Lib.hid (HL.out l[k] (List.getElem_mem hlt))
      obtain ⟨g, o, rfl, lg, hc⟩ := (HI.out.below HB.out).there hx
      generalize l[k] = x at hx hc HX HLx
      obtain ⟨c0, c1, c2, c3, c4, c5, c6, c7, c8, c9, c10, c11, c12⟩ := hc
      have j1 : (k : Int) < (l.length : Int) := by omega
      have j0 : (0 : Int) ≤ (k : Int) := by omega
      have HK := Lib.hid hlt
      clear hx hlt hk
      go_wp2_with fail
      refine (HS.out.call x wr HLx.out (HS.out.keep _ _ HJ.out HB.out)).mono ?_
      rintro e w2 ⟨rfl, hb⟩
      have HB2 := Lib.hid (HB.out.trans (hb.mono HB.out.size))
      clear hb c0 c1 c2 c3 c4 c5 c6 c7 c8 c9 c10 c11 c12
      cases hφ : φ x
      · have HF2 : Hid (∀ j y, j < k + 1 → l[j]? = some y → φ y = false) := Lib.hid (fun j y hj hy => by
          by_cases h : j < k
          · exact HF.out j y h hy
          · obtain rfl : j = k := by omega
            rw [HX.out] at hy; injection hy with hy; subst hy; exact hφ)
        go_wp2_with fail
        go_roundg (l.length - (k + 1))
        case measure => have := HK.out; omega
        case rel => exact ⟨k + 1, by have := HK.out; omega, rfl, by go_num, HF2, HB2⟩
      · have HR := Lib.hid (idx_some HX.out hφ HF.out)
        go_wp2_with fail
        go_ret
        exact ⟨ret_int HR.out.symm, HB2.out⟩
    · obtain rfl : k = l.length := by omega
      have HR := Lib.hid (idx_none (φ := φ) (l := l) (fun x hx => by
        obtain ⟨j, hj⟩ := List.mem_iff_getElem?.1 hx
        exact HF.out j x (List.getElem?_eq_some_iff.1 hj).1 hj))
      go_wp2_with fail
      go_ret
      exact ⟨ret_int HR.out.symm, HB.out⟩
theorem any_idx (φ : It → Bool) (l : List It) : decide (0 ≤ idxF φ l) = l.any φ := by
  cases h : l.any φ
  · rw [idx_none (fun x hx => by simpa using (List.any_eq_false.1 h x hx))]; rfl
  · obtain ⟨x, hx, hφ⟩ := List.any_eq_true.1 h
    unfold idxF
    cases hi : l.findIdx? φ with
    | none => have := List.findIdx?_eq_none_iff.1 hi x hx; rw [hφ] at this; cases this
    | some i => simp
set_option maxRecDepth 100000 in
theorem contains_any {F : FuncId} {fr cs : Array Value} {φ : It → Bool} {J : World → Prop} {L : It → Prop} (S : TellsI F fr cs φ J L) (l : List It) (p : Option Addr) (c : Nat) (w : World) (hn : l.length ≤ 1000) (hL : ∀ x ∈ l, L x) (hI : Its w p l) (hJ : J w) :
    Calls Try.prog 24 #[.slice p l.length c, .func (.func F) fr cs] w (Made (.returned (.bool (l.any φ))) w) := by
  have H := Lib.hid (index_any S l p c w hn hL hI hJ)
  have HA := Lib.hid (any_idx φ l)
  clear S hn hL hI hJ
  go_enter Try.func24, Try.ntmps24
  go_wp2_with fail
  refine H.out.mono ?_
  rintro e w1 ⟨rfl, hb⟩
  have HB := Lib.hid hb
  clear hb
  go_wp2_with fail
  go_ret
  exact ⟨ret_bool HA.out, HB.out⟩
end Go.Proofs.Ytgkgpehjedmejaa.Mmr
