/- Layer 3 (expr): what an expression comes to, whatever tells its leaves. -/
import Derived.Test.YtlfdjlpkopmhhaaDoorExprI
namespace Go.Proofs.YtlfdjlpkopmhhaaDoor.Expr
open Go.RowKit Go.Proofs.YtlfdjlpkopmhhaaDoor.Mem Go.Lib

theorem fn_nil (F : FuncId) (f c : Array Value) (W : World) : (binOp .eql 39 (.func (.func F) f c) .nilFunc).run Tryd.prog W = .ok (.bool false) W := by
  have h : ∀ d : Nat, (Op.equalIn (d + 1) 39 (.func (.func F) f c) .nilFunc).run Tryd.prog W = .ok false W := fun d => by
    simp [Op.equalIn, run_underlying Tryd.underlying39]
  simp only [binOp]
  simp [Op.equal, Op.maxDepth, h 9999]
/-- What is asked of what tells leaves: a number, what it has at hand behind it, and that it changes no more than blocks of some types. -/
structure Leafs {κ : Type} (F : FuncId) (f c : Array Value) (B : Nat) (tl : List TypeId) (J : κ → World → Prop) (lf : κ → Ex → Int × κ) (lim : κ → Ex → Prop) : Prop where
  enters : Enters F
  keep : ∀ k w w', J k w → Fr B vts w w' → J k w'
  call : ∀ (e : Ex) (k : κ) (w : World), e.isLeaf = true → e.ok → lim k e → B ≤ w.heap.size → J k w → Calls Tryd.prog F (f.push (leafVal e) ++ c) w fun e' w' => e' = .returned (.int .u64 (lf k e).1) ∧ J (lf k e).2 w' ∧ Fr B tl w w'
  u64 : ∀ k e, U64 (lf k e).1
  inOne : ∀ (op : Nat) (a : Ex) (k : κ), lim k (.one op a) → lim k a
  inTwo : ∀ (op : Nat) (a b : Ex) (k : κ), lim k (.two op a b) → lim k a ∧ lim (a.value lf k).2 b
  aE : 38 ∉ tl
  aV : 67 ∉ tl
  aU : 22 ∉ tl
  aF : 39 ∉ tl

/-- What holds while it is reckoned: the stack, what tells leaves, and what has not changed. -/
structure Reck {κ : Type} (F : FuncId) (f c : Array Value) (B : Nat) (tl : List TypeId) (J : κ → World → Prop) (g gl : Nat) (w0 : World) (s : List Int × κ) (w : World) : Prop where
  stk : VStk B g w s.1
  j : J s.2 w
  box : Sits w gl 39 #[.func (.func F) f c]
  fr : Fr B (tl ++ vts) w0 w
  size : B ≤ w.heap.size
section
variable {κ : Type} {F : FuncId} {f c : Array Value} {B : Nat} {tl : List TypeId} {J : κ → World → Prop} {lf : κ → Ex → Int × κ} {lim : κ → Ex → Prop} {g gl : Nat} {w0 w w' : World} {st st' : List Int} {k : κ}
/-- Behind a call that changes the stack alone. -/
theorem Reck.stacked (L : Leafs F f c B tl J lf lim) (h : Reck F f c B tl J g gl w0 (st, k) w) (hs : VStk B g w' st') (hf : Fr B vts w w') : Reck F f c B tl J g gl w0 (st', k) w' :=
  ⟨hs, L.keep _ _ _ h.j hf, hf.by_ _ (by decide) _ _ h.box, h.fr.trans (hf.wider fun _ ht => List.mem_append_right _ ht), Nat.le_trans h.size hf.size⟩
theorem Reck.grown (L : Leafs F f c B tl J lf lim) (h : Reck F f c B tl J g gl w0 (st, k) w) (hb : Below w.heap.size w w') : Reck F f c B tl J g gl w0 (st, k) w' :=
  h.stacked L (h.stk.keep (Fr.below (ts := []) hb h.size) (by simp) (by simp)) (Fr.below hb h.size)
/-- Behind a leaf that was told. -/
theorem Reck.told (L : Leafs F f c B tl J lf lim) (h : Reck F f c B tl J g gl w0 (st, k) w) {k' : κ} (hj : J k' w') (hf : Fr B tl w w') : Reck F f c B tl J g gl w0 (st, k') w' :=
  ⟨h.stk.keep hf L.aV L.aU, hj, hf.by_ _ L.aF _ _ h.box, h.fr.trans (hf.wider fun _ ht => List.mem_append_left _ ht), Nat.le_trans h.size hf.size⟩

def reckR (lf : κ → Ex → Int × κ) (e : Ex) (s : List Int × κ) : List Int × κ := (s.1 ++ [(e.value lf s.2).1], (e.value lf s.2).2)
set_option maxRecDepth 100000 in
theorem eval1_num (L : Leafs F f c B tl J lf lim) (n : Nat) (s : List Int × κ) (hl : s.1.length ≤ 900) (w : World) (h : Reck F f c B tl J g gl w0 s w) :
    Calls Tryd.prog 39 #[leafVal (.num n), .pointer (some ⟨g, 0, none⟩), .pointer (some ⟨gl, 0, none⟩)] w (Done (Reck F f c B tl J g gl w0 (reckR lf (.num n) s)) w) := by
  obtain ⟨st, k⟩ := s
  have hb : ∀ o, Below w.heap.size w (w.alloc o) := fun o => (Below.refl _ _).alloc (Nat.le_refl _) o
  have H1 := Lib.hid (fun o => h.grown L (hb o))
  have HU := Lib.hid (fun W (hW : Reck F f c B tl J g gl w0 (st, k) W) => (push_u64 B g st (n : Int) W hW.size (by simp only at hl; omega) hW.stk).mono fun e' w' (hp : Pushed B g (st ++ [(n : Int)]) W e' w') => (show e' = .returned (.tuple #[]) ∧ Reck F f c B tl J g gl w0 (st ++ [(n : Int)], k) w' ∧ Stable 38 W w' from ⟨hp.1, hW.stacked L hp.2.1 hp.2.2, hp.2.2.by_ _ (by decide)⟩))
  have hlt : g < w.heap.size := by obtain ⟨v, hs, _⟩ := h.stk; exact hs.lt
  have er : reckR lf (.num n) (st, k) = (st ++ [(n : Int)], k) := rfl
  rw [er]
  have hltl := h.box.lt
  clear h er hb
  show Calls _ _ #[.agg #[.int .u8 0, .int .u8 0, .int .u64 n, .int .u8 0, .int .u8 0, .int .u8 0, .pointer none, .pointer none], _, _] _ _
  go_enter Tryd.func39, Tryd.ntmps39
  go_wp2_with fail
  refine (HU.out _ (H1.out _)).mono ?_
  rintro e w1 ⟨rfl, hr, hs⟩
  have HR := Lib.hid hr
  have HS := Lib.hid ((Stable.below (t := 38) ((Below.refl _ w).alloc (Nat.le_refl _) (.cells #[.int .u8 0, .int .u8 0, .int .u64 n, .int .u8 0, .int .u8 0, .int .u8 0, .pointer none, .pointer none] 38))).trans hs)
  clear hr hs
  go_wp2_with fail
  go_end0
  exact ⟨rfl, HR.out, HS.out⟩
set_option maxRecDepth 100000 in
set_option maxHeartbeats 1000000 in
theorem eval1_leaf (L : Leafs F f c B tl J lf lim) (e : Ex) (hle : e.isLeaf = true) (hne : ∀ n, e ≠ .num n) (ho : e.ok) (s : List Int × κ) (hl : s.1.length ≤ 900) (hlim : lim s.2 e) (w : World) (h : Reck F f c B tl J g gl w0 s w) :
    Calls Tryd.prog 39 #[leafVal e, .pointer (some ⟨g, 0, none⟩), .pointer (some ⟨gl, 0, none⟩)] w (Done (Reck F f c B tl J g gl w0 (reckR lf e s)) w) := by
  obtain ⟨st, k⟩ := s
  have er : reckR lf e (st, k) = (st ++ [(lf k e).1], (lf k e).2) := by
    cases e with
    | num n => exact absurd rfl (hne n)
    | one op a => cases hle
    | two op a b => cases hle
    | _ => rfl
  rw [er]
  have hk0 : (leafIt e).kind < 4 ∧ (leafIt e).kind ≠ 0 := by
    cases e with
    | num n => exact absurd rfl (hne n)
    | one op a => cases hle
    | two op a b => cases hle
    | _ => exact ⟨by simp [leafIt], by simp [leafIt]⟩
  have hb : ∀ o, Below w.heap.size w (w.alloc o) := fun o => (Below.refl _ _).alloc (Nat.le_refl _) o
  have H1 := Lib.hid (fun o => h.grown L (hb o))
  have HC := Lib.hid (fun W (hW : Reck F f c B tl J g gl w0 (st, k) W) => (L.call e k W hle ho hlim hW.size hW.j).mono fun e' w' hp => (show e' = .returned (.int .u64 (lf k e).1) ∧ Reck F f c B tl J g gl w0 (st, (lf k e).2) w' ∧ Stable 38 W w' from ⟨hp.1, hW.told L hp.2.1 hp.2.2, hp.2.2.by_ _ L.aE⟩))
  have HU := Lib.hid (fun W (hW : Reck F f c B tl J g gl w0 (st, (lf k e).2) W) => (push_u64 B g st (lf k e).1 W hW.size (by simp only at hl; omega) hW.stk).mono fun e' w' (hp : Pushed B g (st ++ [(lf k e).1]) W e' w') => (show e' = .returned (.tuple #[]) ∧ Reck F f c B tl J g gl w0 (st ++ [(lf k e).1], (lf k e).2) w' ∧ Stable 38 W w' from ⟨hp.1, hW.stacked L hp.2.1 hp.2.2, hp.2.2.by_ _ (by decide)⟩))
  have hlt : g < w.heap.size := by obtain ⟨v, hs, _⟩ := h.stk; exact hs.lt
  have hltl := h.box.lt
  have cb : w.cell? ⟨gl, 0, none⟩ = some (.func (.func F) f c) := h.box.cell 0
  have en := L.enters
  unfold Enters at en
  unfold leafVal exprCells at HC ⊢
  generalize (lf k e).1 = z at HC HU ⊢
  generalize (lf k e).2 = k2 at HC HU ⊢
  generalize leafIt e = it at HC hk0 ⊢
  obtain ⟨q, op, n, t, i, x⟩ := it
  simp only at hk0 HC ⊢
  have i0 : ((q : Int) == 0) = false := beq_eq_false_iff_ne.2 (by omega)
  clear h er hb L hne hle ho hk0 hlim
  go_enter Tryd.func39, Tryd.ntmps39
  have hn := fn_nil F f c
  go_wp2_with fail
  refine (HC.out _ (H1.out _)).mono ?_
  rintro e w1 ⟨rfl, hr, hs⟩
  have HR := Lib.hid hr
  have HS := Lib.hid ((Stable.below (t := 38) ((Below.refl _ w).alloc (Nat.le_refl _) (.cells #[.int .u8 q, .int .u8 op, .int .u64 n, .int .u8 t, .int .u8 i, .int .u8 x, .pointer none, .pointer none] 38))).trans hs)
  clear hr hs
  go_wp2_with fail
  refine (HU.out _ HR.out).mono ?_
  rintro e w2 ⟨rfl, hr, hs⟩
  have HR2 := Lib.hid hr
  have HS2 := Lib.hid (HS.out.trans hs)
  clear hr hs
  go_wp2_with fail
  go_end0
  exact ⟨rfl, HR2.out, HS2.out⟩
theorem eval1_enters : Enters 39 := enters_of Tryd.func39 (by kernel_rfl) rfl
theorem vjoin_enters : Enters 41 := enters_of Tryd.func41 (by kernel_rfl) rfl
theorem eval_tells (L : Leafs F f c B tl J lf lim) : Tells (σ := List Int × κ) 39 41 #[] #[.pointer (some ⟨g, 0, none⟩), .pointer (some ⟨gl, 0, none⟩)] #[.pointer (some ⟨g, 0, none⟩)] #[] (reckR lf)
    (Reck F f c B tl J g gl w0) (fun s e => s.1.length + e.depth ≤ 100 ∧ lim s.2 e) where
  e1 := eval1_enters
  e2 := vjoin_enters
  leaf := fun e s w hle ho hb h => by
    have hl : s.1.length ≤ 900 := by omega
    cases e with
    | num n => exact eval1_num L n s hl w h
    | one op a => cases hle
    | two op a b => cases hle
    | reg i => exact eval1_leaf L _ rfl (fun n => by simp) ho s hl hb.2 w h
    | of t i => exact eval1_leaf L _ rfl (fun n => by simp) ho s hl hb.2 w h
    | loc x => exact eval1_leaf L _ rfl (fun n => by simp) ho s hl hb.2 w h
  one := fun op a s w hop ho hb h => by
    obtain ⟨st, k⟩ := s
    have hp : VStk B g w (st ++ [(a.value lf k).1]) := h.stk
    exact (join_one B g op st (a.value lf k).1 w h.size (by simp only at hb; omega) (sides_one.2 hop) hp).mono fun e' w' hq => ⟨hq.1, h.stacked L hq.2.1 hq.2.2, hq.2.2.by_ _ (by decide)⟩
  two := fun op a b s w h1 h2 hoa hob hb h => by
    obtain ⟨st, k⟩ := s
    have hp : VStk B g w (st ++ [(a.value lf k).1] ++ [(b.value lf (a.value lf k).2).1]) := h.stk
    exact (join_two B g op st _ _ w h.size (by simp only at hb; omega) (sides_two.2 ⟨h1, h2⟩) (value_u64 L.u64 a hoa k) (value_u64 L.u64 b hob _) hp).mono fun e' w' hq => ⟨hq.1, h.stacked L hq.2.1 hq.2.2, hq.2.2.by_ _ (by decide)⟩
  inOne := fun op a s hb => ⟨by have := hb.1; simp only [Ex.depth] at this; omega, L.inOne op a s.2 hb.2⟩
  inTwo := fun op a b s hb => by
    obtain ⟨h1, h2⟩ := hb
    obtain ⟨h3, h4⟩ := L.inTwo op a b s.2 h2
    simp only [Ex.depth] at h1
    exact ⟨⟨by omega, h3⟩, by simp only [reckR, List.length_append, List.length_singleton]; omega, h4⟩

/-- Eval's two boxes: what tells leaves, and the stack. -/
def evalBox (w : World) (F : FuncId) (f c : Array Value) : World := (w.alloc (.cells #[.func (.func F) f c] 39)).alloc (.cells #[.slice none 0 0] 67)
theorem evalBox_low (w : World) (F : FuncId) (f c : Array Value) : Below w.heap.size w (evalBox w F f c) := ((Below.refl _ _).alloc (Nat.le_refl _) _).alloc (by simp) _
theorem evalBox_size (w : World) (F : FuncId) (f c : Array Value) : (evalBox w F f c).heap.size = w.heap.size + 2 := by simp [evalBox]
theorem evalBox_fn (w : World) (F : FuncId) (f c : Array Value) : Sits (evalBox w F f c) w.heap.size 39 #[.func (.func F) f c] := (Sits.new _ _ _).alloc _
theorem evalBox_stk (w : World) (F : FuncId) (f c : Array Value) (hB : B ≤ w.heap.size) : VStk B (w.heap.size + 1) (evalBox w F f c) [] := ⟨_, Sits.made (by simp) _ _, by omega, World.ownsRow_nil _ _ _ _⟩
set_option maxRecDepth 100000 in
theorem eval_any (L : Leafs F f c B tl J lf lim) (e : Ex) (ho : e.ok) (hd : e.depth ≤ 12) (k : κ) (hlim : lim k e) (v : Value) (w : World) (hB : B ≤ w.heap.size) (hT : Tree w (treeOf e) v) (hJ : J k w) :
    Calls Tryd.prog 22 #[v, .func (.func F) f c] w fun e' w' => e' = .returned (.int .u64 (e.value lf k).1) ∧ J (e.value lf k).2 w' ∧ Fr B (tl ++ vts) w w' := by
  have hb := evalBox_low w F f c
  have hI : Reck F f c B tl J (w.heap.size + 1) w.heap.size w ([], k) (evalBox w F f c) :=
    ⟨evalBox_stk w F f c hB, L.keep _ _ _ hJ (Fr.below hb hB), evalBox_fn w F f c, Fr.below hb hB, by rw [evalBox_size]; omega⟩
  have HW := Lib.hid (walk_any (eval_tells (g := w.heap.size + 1) (gl := w.heap.size) (w0 := w) L) (fun s w w' h hb => by obtain ⟨st, k⟩ := s; exact h.grown L hb) e ([], k) v (evalBox w F f c) ho hd ⟨by simp only [List.length_nil]; omega, hlim⟩ (hT.below hb) hI)
  have HP := Lib.hid (fun W (h : Reck F f c B tl J (w.heap.size + 1) w.heap.size w (reckR lf e ([], k)) W) => (pop_u64 B (w.heap.size + 1) [] (e.value lf k).1 W (by simp) h.stk).mono fun e' w' (hq : Popped B (w.heap.size + 1) (e.value lf k).1 [] W e' w') => (show e' = .returned (.int .u64 (e.value lf k).1) ∧ J (e.value lf k).2 w' ∧ Fr B (tl ++ vts) w w' from ⟨hq.1, L.keep _ _ _ h.j hq.2.2, h.fr.trans (hq.2.2.wider fun _ ht => List.mem_append_right _ ht)⟩))
  obtain ⟨p, rfl, _⟩ := hT.ptr
  have hz := Lib.hid (fun W (h : Reck F f c B tl J (w.heap.size + 1) w.heap.size w (reckR lf e ([], k)) W) => (show w.heap.size + 1 < W.heap.size by obtain ⟨v, hs, _⟩ := h.stk; exact hs.lt))
  clear L hb hI hT hJ hlim
  generalize (e.value lf k).1 = z at HP ⊢
  generalize (e.value lf k).2 = k2 at HP ⊢
  generalize reckR lf e ([], k) = s2 at HP HW hz
  go_enter Tryd.func22, Tryd.ntmps22
  go_wp2_with fail
  change Calls _ _ _ (evalBox w F f c) _
  generalize evalBox w F f c = W at HW ⊢
  refine HW.out.mono ?_
  rintro e w1 ⟨rfl, hr, _⟩
  have HR := Lib.hid hr
  have hlt := hz.out _ hr
  clear hr
  go_wp2_with fail
  refine (HP.out _ HR.out).mono ?_
  rintro e w2 ⟨rfl, hj, hf⟩
  have HJ := Lib.hid hj
  have HF := Lib.hid hf
  clear hj hf
  go_wp2_with fail
  go_ret
  exact ⟨rfl, HJ.out, HF.out⟩
theorem eval_not (t : Tr) (F : FuncId) (f c : Array Value) (v : Value) (w : World) (hT : Tree w t v) (hf : fitsF t 12 = false) : Calls Tryd.prog 22 #[v, .func (.func F) f c] w fun e w' => Made (.returned (.int .u64 0)) w e w' := by
  have hb := evalBox_low w F f c
  have HW := Lib.hid (fun x y => walk_not t x y v (evalBox w F f c) (hT.below hb) hf)
  have HS := Lib.hid (evalBox_stk w F f c (Nat.le_refl w.heap.size))
  have HB := Lib.hid hb
  obtain ⟨p, rfl, _⟩ := hT.ptr
  have hz := evalBox_size w F f c
  clear hT hf hb
  go_enter Tryd.func22, Tryd.ntmps22
  go_wp2_with fail
  change Calls _ _ _ (evalBox w F f c) _
  generalize evalBox w F f c = W at HW HS HB hz ⊢
  refine (HW.out _ _).mono ?_
  rintro e w1 ⟨rfl, hb⟩
  have HS1 := Lib.hid (HS.out.keep (Fr.below (ts := []) hb HB.out.size) (by simp) (by simp))
  have hlt : w.heap.size + 1 < w1.heap.size := by have := hb.size; omega
  have HB1 := Lib.hid (HB.out.trans (hb.mono HB.out.size))
  clear hb hz
  go_wp2_with fail
  refine (pop_none _ _ _ HS1.out).mono ?_
  rintro e w2 ⟨rfl, _, hfr⟩
  have HB2 := Lib.hid (HB1.out.trans hfr.low)
  clear hfr
  go_wp2_with fail
  go_ret
  exact ⟨rfl, HB2.out⟩
end
end Go.Proofs.YtlfdjlpkopmhhaaDoor.Expr
