/- Layer 3 (expr): what a row's expression comes to, as the document itself reckons it. -/
import Derived.Test.YtlfdjlpkopmhhaaDoorExprF
import Derived.Test.YtlfdjlpkopmhhaaDoorNumD
namespace Go.Proofs.YtlfdjlpkopmhhaaDoor.Expr
open Go.RowKit Go.Proofs.YtlfdjlpkopmhhaaDoor.Mem Go.Lib

/-- A row of numbers of 64 bits. -/
def URow (w : World) (v : Value) (u : List Nat) : Prop :=
  (u = [] ∧ ∃ p cap, v = .slice p 0 cap) ∨ ∃ g o cap, v = .slice (some ⟨g, o, none⟩) u.length cap ∧ u.length ≤ 1000000 ∧ ∀ i a, u[i]? = some a → w.cell? ⟨g, o + i, none⟩ = some (.int .u64 (a : Nat))
theorem URow.below {w w' : World} {v : Value} {u : List Nat} (h : URow w v u) (hb : Below w.heap.size w w') : URow w' v u := by
  rcases h with h | ⟨g, o, cap, hv, hl, h⟩
  · exact .inl h
  · exact .inr ⟨g, o, cap, hv, hl, fun i a ha => (hb.cell (p := ⟨g, o + i, none⟩) (World.block_lt_of_cell? w _ (h i a ha))).trans (h i a ha)⟩
theorem URow.len {w : World} {v : Value} {u : List Nat} (h : URow w v u) : ∃ p cap, v = .slice p u.length cap ∧ u.length ≤ 1000000 := by
  rcases h with ⟨rfl, p, cap, hv⟩ | ⟨g, o, cap, hv, hl, _⟩
  · exact ⟨p, cap, hv, by simp⟩
  · exact ⟨_, cap, hv, hl⟩
theorem URow.item {w : World} {v : Value} {u : List Nat} (h : URow w v u) {i : Nat} {a : Nat} (ha : u[i]? = some a) : ∃ g o cap, v = .slice (some ⟨g, o, none⟩) u.length cap ∧ u.length ≤ 1000000 ∧ i < u.length ∧ w.cell? ⟨g, o + i, none⟩ = some (.int .u64 (a : Nat)) := by
  have hi := (List.getElem?_eq_some_iff.1 ha).1
  rcases h with ⟨rfl, _⟩ | ⟨g, o, cap, hv, hl, h⟩
  · simp at hi
  · exact ⟨g, o, cap, hv, hl, hi, h i a ha⟩

def oneI (op : Nat) (a : Int) : Int := Num.oneF op a
def twoI (op : Nat) (a b : Int) : Int := Num.doF op a b
def U64 (a : Int) : Prop := 0 ≤ a ∧ a < 18446744073709551616
/-- What it comes to, where a leaf is told by lf. -/
def Ex.value {κ : Type} (lf : κ → Ex → Int × κ) (e : Ex) (k : κ) : Int × κ := e.val oneI twoI lf k
theorem value_u64 {κ : Type} {lf : κ → Ex → Int × κ} (hlf : ∀ k e, U64 (lf k e).1) (e : Ex) (he : e.ok) (k : κ) : U64 (e.value lf k).1 := by
  unfold Ex.value
  induction e generalizing k with
  | num n => have h : n < 18446744073709551616 := he; exact ⟨by show (0 : Int) ≤ (n : Int); omega, by show (n : Int) < 18446744073709551616; omega⟩
  | one op a ih => exact Num.oneF_bd _ _
  | two op a b iha ihb =>
    have h1 := iha he.2.2.1 k
    have h2 := ihb he.2.2.2 (a.val oneI twoI lf k).2
    exact Num.doF_bd _ _ _ h1.1 h1.2 h2.1 h2.2
  | _ => exact hlf _ _
/-- Leaves that are told by a row of numbers, one behind the other. -/
def told (u : List Nat) (n : Nat) (_ : Ex) : Int × Nat := (((u.getD n 0 : Nat) : Int), n + 1)

def RVal (u : List Nat) (k : Nat) (e : Ex) (m n : Nat) (v uv : Value) (w : World) : Prop :=
  Calls Tryd.prog 27 #[v, .int .i64 (k : Nat), uv, .int .i64 (n : Nat)] w fun e' w' => Made (.returned (.tuple #[.int .u64 (e.value (told u) n).1, .int .i64 (m : Nat), .int .i64 ((e.value (told u) n).2 : Nat)])) w e' w'

section
variable (l : List It) (u : List Nat) (k n : Nat) (v uv : Value) (w : World)
set_option maxRecDepth 100000 in
theorem rval_num (hv : Row w v l) (op a t i x : Nat) (hk : l[k]? = some ⟨0, op, a, t, i, x⟩) : RVal u k (.num a) (k + 1) n v uv w := by
  unfold RVal
  obtain ⟨g, o, cap, rfl, hl, hkl, c0, c1, c2, c3, c4, c5⟩ := hv.item hk
  simp only at c0 c1 c2 c3 c4 c5
  have i1 : (k : Int) < (l.length : Int) := by omega
  have i2 : (0 : Int) ≤ k := by omega
  have i3 : (l.length : Int) ≤ 1000000 := by omega
  clear hv hk
  go_enter Tryd.func27, Tryd.ntmps27
  go_wp2_with fail
  go_ret3
  exact ⟨rfl, ((Below.refl _ _).alloc (Nat.le_refl _) _)⟩
set_option maxRecDepth 100000 in
theorem rval_leaf (hv : Row w v l) (hu : URow w uv u) (hn : n ≤ 1000000) (q op a t i x : Nat) (hq : 0 < q) (hq4 : q < 4) (hk : l[k]? = some ⟨q, op, a, t, i, x⟩) (e : Ex) (he : e.isLeaf = true) (hne : ∀ a, e ≠ .num a) : RVal u k e (k + 1) n v uv w := by
  have ev : e.value (told u) n = (((u.getD n 0 : Nat) : Int), n + 1) := by
    cases e with
    | num a => exact absurd rfl (hne a)
    | one op a => cases he
    | two op a b => cases he
    | _ => rfl
  unfold RVal
  rw [ev]; clear ev he hne
  obtain ⟨g, o, cap, rfl, hl, hkl, c0, c1, c2, c3, c4, c5⟩ := hv.item hk
  simp only at c0 c1 c2 c3 c4 c5
  have i1 : (k : Int) < (l.length : Int) := by omega
  have i2 : (0 : Int) ≤ k := by omega
  have i3 : (l.length : Int) ≤ 1000000 := by omega
  have i4 : ((q : Int) == 0) = false := beq_eq_false_iff_ne.2 (by omega)
  have i5 : (q : Int) < 4 := by omega
  have i6 : (n : Int) ≤ 1000000 := by omega
  have i7 : (0 : Int) ≤ n := by omega
  clear hv hk hq hq4
  cases hn' : u[n]? with
  | none =>
    have hge : u.length ≤ n := List.getElem?_eq_none_iff.1 hn'
    have E : u.getD n 0 = 0 := by rw [List.getD_eq_getElem?_getD, hn']; rfl
    rw [E]; clear E
    obtain ⟨p, cap', rfl, hul⟩ := hu.len
    have i8 : (u.length : Int) ≤ n := by omega
    clear hu hn' hge
    go_enter Tryd.func27, Tryd.ntmps27
    go_wp2_with fail
    go_ret3
    exact ⟨rfl, ((Below.refl _ _).alloc (Nat.le_refl _) _)⟩
  | some b =>
    have E : u.getD n 0 = b := by rw [List.getD_eq_getElem?_getD, hn']; rfl
    rw [E]; clear E
    obtain ⟨g', o', cap', rfl, hul, hnl, hc⟩ := hu.item hn'
    have i8 : (n : Int) < u.length := by omega
    have hlt := World.block_lt_of_cell? w _ hc
    clear hu hn'
    go_enter Tryd.func27, Tryd.ntmps27
    go_wp2_with fail
    go_ret3
    exact ⟨rfl, ((Below.refl _ _).alloc (Nat.le_refl _) _)⟩
set_option maxRecDepth 100000 in
theorem rval_one (hv : Row w v l) (op a t i x : Nat) (hk : l[k]? = some ⟨4, op, a, t, i, x⟩) (e : Ex) (m : Nat) (ih : ∀ W, Below w.heap.size w W → RVal u (k + 1) e m n v uv W) : RVal u k (.one op e) m n v uv w := by
  have IH := Lib.hid (fun W hb => show Calls Tryd.prog 27 #[v, .int .i64 ((k : Int) + 1), uv, .int .i64 (n : Nat)] W fun e' w' => Made (.returned (.tuple #[.int .u64 (e.value (told u) n).1, .int .i64 (m : Nat), .int .i64 ((e.value (told u) n).2 : Nat)])) W e' w' from ih W hb)
  unfold RVal
  rw [show (Ex.one op e).value (told u) n = (oneI op (e.value (told u) n).1, (e.value (told u) n).2) from rfl]
  generalize (e.value (told u) n).1 = z at IH ⊢
  generalize (e.value (told u) n).2 = j at IH ⊢
  obtain ⟨g, o, cap, rfl, hl, hkl, c0, c1, c2, c3, c4, c5⟩ := hv.item hk
  simp only at c0 c1 c2 c3 c4 c5
  have i1 : (k : Int) < (l.length : Int) := by omega
  have i2 : (0 : Int) ≤ k := by omega
  have i3 : (l.length : Int) ≤ 1000000 := by omega
  clear hv hk ih
  go_enter Tryd.func27, Tryd.ntmps27
  go_wp2_with fail
  refine (IH.out _ ((Below.refl _ _).alloc (Nat.le_refl _) _)).mono ?_
  rintro e w1 ⟨rfl, hb⟩
  have S1 := (Sits.new w 50 #[.int .u8 4, .int .u8 op, .int .u64 a, .int .u8 t, .int .u8 i, .int .u8 x]).below hb (by simp)
  have HB1 := Lib.hid (Below.boxed _ _ hb)
  have x0 : w1.cell? ⟨w.heap.size, 0, none⟩ = some (.int .u8 4) := S1.cell 0
  have x1 : w1.cell? ⟨w.heap.size, 1, none⟩ = some (.int .u8 op) := S1.cell 1
  clear hb S1 c0 c1 c2 c3 c4 c5
  go_wp2_with fail
  refine (Num.rone_any op z _).mono ?_
  rintro e w2 ⟨rfl, rfl⟩
  go_wp2_with fail
  go_ret3
  exact ⟨rfl, HB1.out⟩
set_option maxRecDepth 100000 in
theorem rval_two (hv : Row w v l) (op a t i x : Nat) (hk : l[k]? = some ⟨5, op, a, t, i, x⟩) (e f : Ex) (m j : Nat) (b1 : U64 (e.value (told u) n).1) (b2 : U64 (f.value (told u) (e.value (told u) n).2).1)
    (ih : ∀ W, Below w.heap.size w W → RVal u (k + 1) e m n v uv W) (ih2 : ∀ W, Below w.heap.size w W → RVal u m f j (e.value (told u) n).2 v uv W) : RVal u k (.two op e f) j n v uv w := by
  have IH := Lib.hid (fun W hb => show Calls Tryd.prog 27 #[v, .int .i64 ((k : Int) + 1), uv, .int .i64 (n : Nat)] W fun e' w' => Made (.returned (.tuple #[.int .u64 (e.value (told u) n).1, .int .i64 (m : Nat), .int .i64 ((e.value (told u) n).2 : Nat)])) W e' w' from ih W hb)
  have IH2 := Lib.hid ih2
  unfold RVal at IH2
  unfold RVal
  rw [show (Ex.two op e f).value (told u) n = (twoI op (e.value (told u) n).1 (f.value (told u) (e.value (told u) n).2).1, (f.value (told u) (e.value (told u) n).2).2) from rfl]
  generalize (e.value (told u) n).1 = z at IH b1 ⊢
  generalize (e.value (told u) n).2 = n1 at IH IH2 b2 ⊢
  generalize (f.value (told u) n1).1 = z2 at IH2 b2 ⊢
  generalize (f.value (told u) n1).2 = n2 at IH2 ⊢
  obtain ⟨b1, b1'⟩ := b1
  obtain ⟨b2, b2'⟩ := b2
  obtain ⟨g, o, cap, rfl, hl, hkl, c0, c1, c2, c3, c4, c5⟩ := hv.item hk
  simp only at c0 c1 c2 c3 c4 c5
  have i1 : (k : Int) < (l.length : Int) := by omega
  have i2 : (0 : Int) ≤ k := by omega
  have i3 : (l.length : Int) ≤ 1000000 := by omega
  clear hv hk ih ih2
  go_enter Tryd.func27, Tryd.ntmps27
  go_wp2_with fail
  refine (IH.out _ ((Below.refl _ _).alloc (Nat.le_refl _) _)).mono ?_
  rintro e w1 ⟨rfl, hb⟩
  have S1 := Lib.hid ((Sits.new w 50 #[.int .u8 5, .int .u8 op, .int .u64 a, .int .u8 t, .int .u8 i, .int .u8 x]).below hb (by simp))
  have HB1 := Lib.hid (Below.boxed _ _ hb)
  have x0 : w1.cell? ⟨w.heap.size, 0, none⟩ = some (.int .u8 5) := S1.out.cell 0
  clear hb c0 c1 c2 c3 c4 c5
  go_wp2_with fail
  refine (IH2.out _ HB1.out).mono ?_
  rintro e w2 ⟨rfl, hb⟩
  have S2 := S1.out.below hb S1.out.lt
  have x1 : w2.cell? ⟨w.heap.size, 1, none⟩ = some (.int .u8 op) := S2.cell 1
  have HB2 := Lib.hid (HB1.out.trans (hb.mono HB1.out.size))
  clear hb S2 x0
  go_wp2_with fail
  refine (Num.rdo_any op z z2 b1 b1' b2 b2' _).mono ?_
  rintro e w3 ⟨rfl, rfl⟩
  go_wp2_with fail
  go_ret3
  exact ⟨rfl, HB2.out⟩
end
theorem told_u64 {u : List Nat} (hu : ∀ a ∈ u, a < 18446744073709551616) (k : Nat) (e : Ex) : U64 (told u k e).1 := by
  unfold told
  rw [List.getD_eq_getElem?_getD]
  cases h : u[k]? with
  | none => exact ⟨by simp, by simp⟩
  | some a => have := hu a (List.mem_of_getElem? h); refine ⟨by simp, ?_⟩; simp only [Option.getD_some]; omega
theorem told_next (u : List Nat) : ∀ (e : Ex) (n : Nat), (e.value (told u) n).2 ≤ n + e.size := by
  intro e
  unfold Ex.value
  induction e with
  | num a => intro n; simp [Ex.val, Ex.size]
  | one op a ih => intro n; have := ih n; simp only [Ex.val, Ex.size]; omega
  | two op a b iha ihb => intro n; have h1 := iha n; have h2 := ihb (a.val oneI twoI (told u) n).2; simp only [Ex.val, Ex.size]; omega
  | _ => intro n; simp [Ex.val, Ex.size, told]
theorem rval_any {l : List It} (hbd : ∀ a ∈ l, a.bd) {u : List Nat} (hu64 : ∀ a ∈ u, a < 18446744073709551616) {k m : Nat} {e : Ex} (h : Sp l k e m) : ∀ (v uv : Value) (w : World) (n : Nat), l.length ≤ 10000 → n + e.size ≤ 1000000 → Row w v l → URow w uv u → RVal u k e m n v uv w := by
  have u64 : ∀ {k m : Nat} {e : Ex}, Sp l k e m → ∀ n, U64 (e.value (told u) n).1 := fun h n => value_u64 (fun k e => told_u64 hu64 k e) _ (h.ok hbd) n
  induction h with
  | @num k a h hk =>
    intro v uv w n hl hn hv hu
    obtain ⟨q, op, a, t, i, x⟩ := a
    obtain rfl : q = 0 := hk
    exact rval_num l u k n v uv w hv op a t i x h
  | @reg k a h hk hi =>
    intro v uv w n hl hn hv hu
    obtain ⟨q, op, a, t, i, x⟩ := a
    obtain rfl : q = 1 := hk
    exact rval_leaf l u k n v uv w hv hu (by simp only [Ex.size] at hn; omega) 1 op a t i x (by decide) (by decide) h _ rfl (fun a => by simp)
  | @of k a h hk ht hi =>
    intro v uv w n hl hn hv hu
    obtain ⟨q, op, a, t, i, x⟩ := a
    obtain rfl : q = 2 := hk
    exact rval_leaf l u k n v uv w hv hu (by simp only [Ex.size] at hn; omega) 2 op a t i x (by decide) (by decide) h _ rfl (fun a => by simp)
  | @loc k a h hk h1 h2 h3 =>
    intro v uv w n hl hn hv hu
    obtain ⟨q, op, a, t, i, x⟩ := a
    obtain rfl : q = 3 := hk
    exact rval_leaf l u k n v uv w hv hu (by simp only [Ex.size] at hn; omega) 3 op a t i x (by decide) (by decide) h _ rfl (fun a => by simp)
  | @one k a e m h hk ho hs ih =>
    intro v uv w n hl hn hv hu
    obtain ⟨q, op, a, t, i, x⟩ := a
    obtain rfl : q = 4 := hk
    exact rval_one l u k n v uv w hv op a t i x h e m fun W hb => ih v uv W n hl (by simp only [Ex.size] at hn; omega) (hv.below hb) (hu.below hb)
  | @two k a e f m j h hk h1 h2 hs1 hs2 ih1 ih2 =>
    intro v uv w n hl hn hv hu
    obtain ⟨q, op, a, t, i, x⟩ := a
    obtain rfl : q = 5 := hk
    have hj := told_next u e n
    simp only [Ex.size] at hn
    exact rval_two l u k n v uv w hv op a t i x h e f m j (u64 hs1 n) (u64 hs2 _) (fun W hb => ih1 v uv W n hl (by omega) (hv.below hb) (hu.below hb)) (fun W hb => ih2 v uv W _ hl (by omega) (hv.below hb) (hu.below hb))
end Go.Proofs.YtlfdjlpkopmhhaaDoor.Expr
