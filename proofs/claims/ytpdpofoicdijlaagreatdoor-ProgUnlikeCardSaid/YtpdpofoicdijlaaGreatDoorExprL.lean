/- Layer 3 (expr): how an expression is written. -/
import Derived.Test.YtpdpofoicdijlaaGreatDoorExprK
import Derived.Deep.DeepCutAuto
namespace Go.Proofs.YtpdpofoicdijlaaGreatDoor.Expr
open Go.RowKit Go.Proofs.YtpdpofoicdijlaaGreatDoor.Mem Go.Lib

/-- What holds while it is written. -/
structure Wr (w0 : World) (g : Nat) (st : List (List UInt8 × Nat)) (w : World) : Prop where
  stk : TStk w0.heap.size g w st
  low : Below w0.heap.size w0 w
section
variable {w0 w w' : World} {g : Nat} {st st' : List (List UInt8 × Nat)}
theorem Wr.grown (h : Wr w0 g st w) (hb : Below w.heap.size w w') : Wr w0 g st w' := ⟨h.stk.below hb, h.low.trans (hb.mono h.low.size)⟩
theorem Wr.drew (h : Wr w0 g st w) : Wr w0 g st w.drew := h.grown (Below.refl _ _).drew
theorem Wr.alloc (h : Wr w0 g st w) (o : Obj) : Wr w0 g st (w.alloc o) := h.grown ((Below.refl _ w).alloc (Nat.le_refl _) o)
theorem Wr.put (h : Wr w0 g st w) (hs : TStk w0.heap.size g w' st') (hf : Fr w0.heap.size tts w w') : Wr w0 g st' w' := ⟨hs, h.low.trans hf.low⟩
theorem Wr.tabs (h : Wr w0 g st w) (hT : Tabs w0) : Tabs w := hT.below h.low
theorem Wr.lt (h : Wr w0 g st w) : g < w.heap.size := by obtain ⟨v, hs, _⟩ := h.stk; exact hs.lt
theorem Wr.push (h : Wr w0 g st w) (l : List UInt8) (k : Nat) (hl : st.length ≤ 1000) : Calls Tryz.prog 118 #[.pointer (some ⟨g, 0, none⟩), .agg #[.string (str l), .int .i64 (k : Nat)]] w (Done (Wr w0 g (st ++ [(l, k)])) w) :=
  (push_text w0.heap.size g st l k w h.low.size hl h.stk).mono fun _ _ hp => ⟨hp.1, h.put hp.2.1 hp.2.2, hp.2.2.by_ _ (by decide)⟩
/-- The same, the row in a block below C. -/
structure WrC (C : Nat) (w0 : World) (g : Nat) (st : List (List UInt8 × Nat)) (w : World) : Prop where
  stk : TIn C w0.heap.size g w st
  low : Below w0.heap.size w0 w
theorem Wr.in_ (h : Wr w0 g st w) : WrC w.heap.size w0 g st w := ⟨h.stk.in_, h.low⟩
theorem WrC.wr {C : Nat} (h : WrC C w0 g st w) : Wr w0 g st w := ⟨h.stk.stk, h.low⟩
theorem WrC.lt {C : Nat} (h : WrC C w0 g st w) : g < w.heap.size := h.wr.lt
theorem WrC.keeps {C : Nat} {X : Nat → Prop} (h : WrC C w0 g st w) (hk : Keeps X w w') (h1 : ¬ X g) (h2 : ∀ b, b < C → ¬ X b) (h3 : ∀ b, b < w0.heap.size → ¬ X b) : WrC C w0 g st w' :=
  ⟨h.stk.keeps hk h1 h2, ⟨hk.os.trans h.low.os, hk.tape.trans h.low.tape, hk.output.trans h.low.output, Nat.le_trans h.low.size hk.size, fun b hb => (hk.block b (Nat.lt_of_lt_of_le hb h.low.size) (h3 b hb)).trans (h.low.block b hb)⟩⟩
theorem WrC.drew {C : Nat} (h : WrC C w0 g st w) : WrC C w0 g st w.drew := h.keeps (X := fun _ => False) (Keeps.refl _ w).drew (fun h => h) (fun _ _ h => h) (fun _ _ h => h)
theorem WrC.alloc {C : Nat} (h : WrC C w0 g st w) (o : Obj) : WrC C w0 g st (w.alloc o) := h.keeps (X := fun _ => False) ((Keeps.refl _ w).alloc o) (fun h => h) (fun _ _ h => h) (fun _ _ h => h)
def WPop (C : Nat) (w0 : World) (g : Nat) (l : List UInt8) (k : Nat) (st : List (List UInt8 × Nat)) (w : World) (e : Ending) (w' : World) : Prop := e = .returned (.agg #[.string (str l), .int .i64 (k : Nat)]) ∧ WrC C w0 g st w' ∧ Stable 58 w w' ∧ Keeps (fun b => b = g) w w'
theorem WrC.pop {C : Nat} {l : List UInt8} {k : Nat} (h : WrC C w0 g (st ++ [(l, k)]) w) (hl : st.length ≤ 1000) : Calls Tryz.prog 72 #[.pointer (some ⟨g, 0, none⟩)] w (WPop C w0 g l k st w) :=
  (pop_text C w0.heap.size g st l k w h.low.size hl h.stk).mono fun _ _ hp => ⟨hp.1, ⟨hp.2.1, h.low.trans hp.2.2.1.low⟩, hp.2.2.1.by_ _ (by decide), hp.2.2.2⟩
theorem Wr.pop {l : List UInt8} {k : Nat} (h : Wr w0 g (st ++ [(l, k)]) w) (hl : st.length ≤ 1000) : Calls Tryz.prog 72 #[.pointer (some ⟨g, 0, none⟩)] w (WPop w.heap.size w0 g l k st w) := h.in_.pop hl
end

def textR (e : Ex) (st : List (List UInt8 × Nat)) : List (List UInt8 × Nat) := st ++ [(e.text, e.strong)]
set_option maxRecDepth 100000 in
set_option maxHeartbeats 1000000 in
theorem tleaf_any (w0 : World) (hT : Tabs w0) (g : Nat) (e : Ex) (hle : e.isLeaf = true) (ho : e.ok) (st : List (List UInt8 × Nat)) (hl : st.length ≤ 900) (w : World) (h : Wr w0 g st w) :
    Calls Tryz.prog 70 #[.pointer (some ⟨g, 0, none⟩), leafVal e] w (Done (Wr w0 g (textR e st)) w) := by
  have es : e.strong = 5 := by
    cases e with
    | one op a => cases hle
    | two op a b => cases hle
    | _ => rfl
  unfold textR
  rw [es]
  have HL := Lib.hid (fun W (hW : Wr w0 g st W) => letters_any e hle ho W (hW.tabs hT))
  have HU := Lib.hid (fun W (hW : Wr w0 g st W) => hW.push e.text 5 (by omega))
  unfold leafVal exprCells at HL ⊢
  generalize e.text = tx at HL HU ⊢
  generalize leafIt e = it at HL ⊢
  obtain ⟨q, op, n, t, i, x⟩ := it
  simp only at HL ⊢
  have hb : Below w.heap.size w (w.alloc (.cells #[.int .u8 q, .int .u8 op, .int .u64 n, .int .u8 t, .int .u8 i, .int .u8 x, .pointer none, .pointer none] 58)) := (Below.refl _ _).alloc (Nat.le_refl _) _
  have H1 := Lib.hid (h.grown hb)
  have HS0 := Lib.hid (Stable.below (t := 58) hb)
  have hlt := h.lt
  clear h hb es
  go_enter Tryz.func70, Tryz.ntmps70
  go_wp2_with fail
  go_region_with (first
    | (go_at_call 119; refine (HL.out _ H1.out.drew).mono ?_; rintro e w1 ⟨rfl, hb1⟩; have H2 := Lib.hid (H1.out.drew.grown hb1); have HS1 := Lib.hid (HS0.out.trans (Stable.trans (w' := World.drew _) (fun _ _ hs => hs.drew) (Stable.below hb1))); clear hb1)
    | (go_at_call 118; refine (HU.out _ H2.out).mono ?_; rintro e w2 ⟨rfl, hw2, hs2⟩; have H3 := Lib.hid hw2; have HS2 := Lib.hid (HS1.out.trans hs2); clear hw2 hs2))
  all_goals
    go_wp2_with fail
    go_end0
    exact ⟨rfl, H3.out, HS2.out⟩
theorem strong_pos' (op : Nat) : strongOp op ≤ 4 := by
  unfold strongOp
  repeat' split
  all_goals omega
theorem alloc_stable (w : World) (o : Obj) : Stable 58 w (w.alloc o) := Stable.below ((Below.refl _ w).alloc (Nat.le_refl _) o)
/-- A box for a part. -/
abbrev zbox : Obj := .cells #[.string ⟨#[]⟩, .int .i64 0] 147
def Zat (w : World) (b : Nat) : Prop := Sits w b 147 #[.string ⟨#[]⟩, .int .i64 0]
theorem Zat.new (w : World) : Zat (w.alloc zbox) w.heap.size := Sits.new _ _ _
theorem Zat.new2 (w : World) : Zat ((w.alloc zbox).alloc zbox) (w.heap.size + 1) := by
  have := Zat.new (w.alloc zbox)
  simpa using this
theorem Zat.alloc {w : World} {b : Nat} (h : Zat w b) (o : Obj) : Zat (w.alloc o) b := Sits.alloc h o
theorem Zat.keep {w w' : World} {b g : Nat} (h : Zat w b) (k : Keeps (fun b => b = g) w w') (hn : g < b) : Zat w' b := Sits.keep h k (fun e => by omega)
theorem Zat.lt {w : World} {b : Nat} (h : Zat w b) : b < w.heap.size := Sits.lt h
theorem Zat.facts {w : World} {b : Nat} (h : Zat w b) : (w.cell? ⟨b, 0, none⟩ = some (.string ⟨#[]⟩) ∧ w.cell? ⟨b, 1, none⟩ = some (.int .i64 0)) ∧ w.frozen? ⟨b, 0, none⟩ = false ∧ w.frozen? ⟨b, 1, none⟩ = false ∧ b < w.heap.size := ⟨⟨Sits.cell h 0, Sits.cell h 1⟩, Sits.free h 0, Sits.free h 1, Sits.lt h⟩
theorem drew_stable (w : World) : Stable 58 w w.drew := fun _ _ hs => hs.drew
set_option maxRecDepth 100000 in
set_option maxHeartbeats 1000000 in
theorem tjoin_one (w0 : World) (hT : Tabs w0) (g op : Nat) (hop : op = 13 ∨ op = 14) (ta : List UInt8) (ka : Nat) (hla : ta.length ≤ 1000000) (st : List (List UInt8 × Nat)) (hl : st.length ≤ 900) (w : World) (h : Wr w0 g (st ++ [(ta, ka)]) w) :
    Calls Tryz.prog 71 #[.pointer (some ⟨g, 0, none⟩), .int .u8 (op : Nat)] w (Done (Wr w0 g (st ++ [(sign op ++ atLeast (strongOp op) ka ta, strongOp op)])) w) := by
  have HSD := Lib.hid (sides_one.2 hop)
  have HSG := Lib.hid (fun W (hW : Tabs W) => sign_any op (by omega) W hW)
  have HST := Lib.hid (fun W => strength_any op W)
  have HP := Lib.hid (fun W (hW : Wr w0 g (st ++ [(ta, ka)]) W) => hW.pop (by omega))
  have la := atLeast_len (strongOp op) ka ta
  have ls := sign_len op
  have p3 : ∀ W, (Op.stringOp .add (str (sign op)) (str (atLeast (strongOp op) ka ta))).run Tryz.prog W = .ok (.string (str (sign op ++ atLeast (strongOp op) ka ta))) W := fun W => add_str _ _ (by omega) W
  have HA := Lib.hid (fun W => atLeast_any ta ka (strongOp op) hla W)
  have HU := Lib.hid (fun W (hW : Wr w0 g st W) => hW.push (sign op ++ atLeast (strongOp op) ka ta) (strongOp op) (by omega))
  have HTB := Lib.hid (h.tabs hT)
  have H0 := Lib.hid h
  have hlt := h.lt
  clear h la ls hT hla hop
  generalize sign op ++ atLeast (strongOp op) ka ta = tr at p3 HU ⊢
  generalize atLeast (strongOp op) ka ta = tb at p3 HA
  generalize strongOp op = so at *
  generalize sign op = sg at *
  go_enter Tryz.func71, Tryz.ntmps71
  go_wp2_with (first | (go_at_call 120; refine (HSG.out _ HTB.out).mono ?_; rintro e w' ⟨rfl, rfl⟩) | (go_at_call 121; refine (HST.out _).mono ?_; rintro e w' ⟨rfl, rfl⟩) | (go_at_call 122; refine (sides_nat _ _).mono ?_; rw [HSD.out]; rintro e w' ⟨rfl, rfl⟩))
  go_region_with (first
    | (go_at_call 72; refine (HP.out _ H0.out.drew).mono ?_; rintro e w1 ⟨rfl, hw1, hs1, _⟩; have H1 := Lib.hid hw1.wr; have HS1 := Lib.hid ((drew_stable w).trans hs1); clear hw1 hs1)
    | (go_at_call 123; refine (HA.out _).mono ?_; rintro e w2 ⟨rfl, hb2⟩; have H2 := Lib.hid (H1.out.grown hb2); have HS2 := Lib.hid (HS1.out.trans (Stable.below hb2)); clear hb2)
    | (go_at_call 118; refine (HU.out _ H2.out).mono ?_; rintro e w3 ⟨rfl, hw3, hs3⟩; have H3 := Lib.hid hw3; have HS3 := Lib.hid (HS2.out.trans hs3); clear hw3 hs3))
  all_goals
    go_wp2_with fail
    go_end0
    exact ⟨rfl, H3.out, HS3.out⟩
/-- What stands behind both pops: each part in a box of its own. -/
structure Fin (w0 w : World) (g : Nat) (st : List (List UInt8 × Nat)) (a b : List UInt8 × Nat) (b6 b7 : Nat) (W : World) : Prop where
  right : Sits W b6 147 #[.string (str b.1), .int .i64 (b.2 : Nat)]
  left : Sits W b7 147 #[.string (str a.1), .int .i64 (a.2 : Nat)]
  wr : Wr w0 g st W
  tree : Stable 58 w W
section
variable {w0 w w2 : World} {g : Nat} {st : List (List UInt8 × Nat)} {ta tb : List UInt8} {ka kb : Nat} {b6 b7 : Nat}
theorem Fin.grown {W W' : World} {a b : List UInt8 × Nat} (h : Fin w0 w g st a b b6 b7 W) (hb : Below W.heap.size W W') : Fin w0 w g st a b b6 b7 W' := ⟨h.right.below hb h.right.lt, h.left.below hb h.left.lt, h.wr.grown hb, h.tree.trans (Stable.below hb)⟩
theorem Fin.drew {W : World} {a b : List UInt8 × Nat} (h : Fin w0 w g st a b b6 b7 W) : Fin w0 w g st a b b6 b7 W.drew := h.grown (Below.refl _ _).drew
theorem Fin.facts {W : World} {a b : List UInt8 × Nat} (h : Fin w0 w g st a b b6 b7 W) : (W.cell? ⟨b6, 0, none⟩ = some (.string (str b.1)) ∧ W.cell? ⟨b6, 1, none⟩ = some (.int .i64 (b.2 : Nat))) ∧ (W.cell? ⟨b7, 0, none⟩ = some (.string (str a.1)) ∧ W.cell? ⟨b7, 1, none⟩ = some (.int .i64 (a.2 : Nat))) ∧ g < W.heap.size := ⟨⟨h.right.cell 0, h.right.cell 1⟩, ⟨h.left.cell 0, h.left.cell 1⟩, h.wr.lt⟩
theorem Zat.put {b : Nat} (h : Zat w2 b) (t : List UInt8) (k : Nat) : Sits ((w2.setCell ⟨b, 0, none⟩ (.string (str t))).setCell ⟨b, 1, none⟩ (.int .i64 (k : Nat))) b 147 #[.string (str t), .int .i64 (k : Nat)] := (Sits.put h 0 _).put 1 _
theorem WrC.put {b : Nat} (h : WrC w.heap.size w0 g st w2) (hg : g < w.heap.size) (h0 : w0.heap.size ≤ w.heap.size) (hb : w.heap.size ≤ b) (u v : Value) : WrC w.heap.size w0 g st ((w2.setCell ⟨b, 0, none⟩ u).setCell ⟨b, 1, none⟩ v) :=
  h.keeps (X := fun x => x = b) (((Keeps.refl (fun x => x = b) w2).put (p := ⟨b, 0, none⟩) (.inl (Eq.refl b)) u).put (p := ⟨b, 1, none⟩) (.inl (Eq.refl b)) v) (fun e => by omega) (fun x hx e => by omega) (fun x hx e => by omega)
theorem tree_put {b : Nat} {cs : Array Value} (hs : Sits w2 b 147 cs) (u v : Value) : Stable 58 w2 ((w2.setCell ⟨b, 0, none⟩ u).setCell ⟨b, 1, none⟩ v) :=
  (Stable.put hs (by decide) 0 u).trans (Stable.put (hs.put 0 u) (by decide) 1 v)
theorem Fin.way1 (h : WrC w.heap.size w0 g st w2) (hs : Stable 58 w w2) : Fin w0 w g st (ta, ka) (tb, kb) w2.heap.size (w2.heap.size + 1) ((w2.alloc (.cells #[.string (str tb), .int .i64 (kb : Nat)] 147)).alloc (.cells #[.string (str ta), .int .i64 (ka : Nat)] 147)) :=
  ⟨(Sits.new _ _ _).alloc _, Sits.made (by simp) _ _, ((h.alloc _).alloc _).wr, (hs.trans (alloc_stable _ _)).trans (alloc_stable _ _)⟩
theorem Fin.way2 (h : WrC w.heap.size w0 g st w2) (hs : Stable 58 w w2) : Fin w0 w g st (ta, ka) (tb, kb) (w2.heap.size + 1) w2.heap.size ((w2.alloc (.cells #[.string (str ta), .int .i64 (ka : Nat)] 147)).alloc (.cells #[.string (str tb), .int .i64 (kb : Nat)] 147)) :=
  ⟨Sits.made (by simp) _ _, (Sits.new _ _ _).alloc _, ((h.alloc _).alloc _).wr, (hs.trans (alloc_stable _ _)).trans (alloc_stable _ _)⟩
theorem Fin.way3 (h : WrC w.heap.size w0 g st w2) (hs : Stable 58 w w2) (hg : g < w.heap.size) (h0 : w0.heap.size ≤ w.heap.size) (z : Zat w2 b6) (hb : w.heap.size ≤ b6) : Fin w0 w g st (ta, ka) (tb, kb) b6 w2.heap.size (((w2.setCell ⟨b6, 0, none⟩ (.string (str tb))).setCell ⟨b6, 1, none⟩ (.int .i64 (kb : Nat))).alloc (.cells #[.string (str ta), .int .i64 (ka : Nat)] 147)) :=
  ⟨(z.put tb kb).alloc _, Sits.made (by simp [World.setCell]) _ _, ((h.put hg h0 hb _ _).alloc _).wr, (hs.trans (tree_put z _ _)).trans (alloc_stable _ _)⟩
theorem Fin.way4 (h : WrC w.heap.size w0 g st w2) (hs : Stable 58 w w2) (hg : g < w.heap.size) (h0 : w0.heap.size ≤ w.heap.size) (z : Zat w2 b7) (hb : w.heap.size ≤ b7) : Fin w0 w g st (ta, ka) (tb, kb) w2.heap.size b7 (((w2.setCell ⟨b7, 0, none⟩ (.string (str ta))).setCell ⟨b7, 1, none⟩ (.int .i64 (ka : Nat))).alloc (.cells #[.string (str tb), .int .i64 (kb : Nat)] 147)) :=
  ⟨Sits.made (by simp [World.setCell]) _ _, (z.put ta ka).alloc _, ((h.put hg h0 hb _ _).alloc _).wr, (hs.trans (tree_put z _ _)).trans (alloc_stable _ _)⟩
theorem Fin.way5 (h : WrC w.heap.size w0 g st w2) (hs : Stable 58 w w2) (hg : g < w.heap.size) (h0 : w0.heap.size ≤ w.heap.size) (z6 : Zat w2 b6) (z7 : Zat w2 b7) (hb : w.heap.size ≤ b6) (hb' : w.heap.size ≤ b7) (hne : b6 ≠ b7) : Fin w0 w g st (ta, ka) (tb, kb) b6 b7 ((((w2.setCell ⟨b6, 0, none⟩ (.string (str tb))).setCell ⟨b6, 1, none⟩ (.int .i64 (kb : Nat))).setCell ⟨b7, 0, none⟩ (.string (str ta))).setCell ⟨b7, 1, none⟩ (.int .i64 (ka : Nat))) := by
  have z7' : Zat ((w2.setCell ⟨b6, 0, none⟩ (.string (str tb))).setCell ⟨b6, 1, none⟩ (.int .i64 (kb : Nat))) b7 := (Sits.far z7 (p := ⟨b6, 0, none⟩) (Ne.symm hne) _).far (p := ⟨b6, 1, none⟩) (Ne.symm hne) _
  exact ⟨((z6.put tb kb).far (p := ⟨b7, 0, none⟩) hne _).far (p := ⟨b7, 1, none⟩) hne _, z7'.put ta ka, ((h.put hg h0 hb _ _).put hg h0 hb' _ _).wr, (hs.trans (tree_put z6 _ _)).trans (tree_put z7' _ _)⟩
end
set_option maxRecDepth 100000 in
set_option maxHeartbeats 4000000 in
theorem tjoin_two (w0 : World) (hT : Tabs w0) (g op : Nat) (h1 : 1 ≤ op) (h2 : op ≤ 12) (ta tb : List UInt8) (ka kb : Nat) (hla : ta.length ≤ 1000000) (hlb : tb.length ≤ 1000000) (st : List (List UInt8 × Nat)) (hl : st.length ≤ 900) (w : World) (h : Wr w0 g (st ++ [(ta, ka)] ++ [(tb, kb)]) w) :
    Calls Tryz.prog 71 #[.pointer (some ⟨g, 0, none⟩), .int .u8 (op : Nat)] w (Done (Wr w0 g (st ++ [(atLeast (strongOp op) ka ta ++ [32] ++ sign op ++ [32] ++ atLeast (strongOp op + 1) kb tb, strongOp op)])) w) := by
  have HSD := Lib.hid (sides_two.2 ⟨h1, h2⟩)
  have HSG := Lib.hid (fun W (hW : Tabs W) => sign_any op (by omega) W hW)
  have HST := Lib.hid (fun W => strength_any op W)
  have HP1 := Lib.hid (fun W (hW : WrC w.heap.size w0 g (st ++ [(ta, ka)] ++ [(tb, kb)]) W) => hW.pop (by simp; omega))
  have HP2 := Lib.hid (fun W (hW : WrC w.heap.size w0 g (st ++ [(ta, ka)]) W) => hW.pop (by omega))
  have lA := atLeast_len (strongOp op) ka ta
  have lB := atLeast_len (strongOp op + 1) kb tb
  have ls := sign_len op
  have HA := Lib.hid (fun W => atLeast_any ta ka (strongOp op) hla W)
  have HB := Lib.hid (fun W => show Calls Tryz.prog 123 #[.agg #[.string (str tb), .int .i64 kb], .int .i64 ((strongOp op : Int) + 1)] W fun e' w' => Made (.returned (.string (str (atLeast (strongOp op + 1) kb tb)))) W e' w' from atLeast_any tb kb (strongOp op + 1) hlb W)
  have hso := strong_pos' op
  generalize atLeast (strongOp op) ka ta = A at HA lA ⊢
  generalize atLeast (strongOp op + 1) kb tb = Bt at HB lB ⊢
  have s1 : ∀ W, (Op.stringOp .add (str A) ⟨#[32]⟩).run Tryz.prog W = .ok (.string (str (A ++ [32]))) W := fun W => add_str A [32] (by simp; omega) W
  obtain ⟨L1, e1⟩ : ∃ L, L = A ++ [32] := ⟨_, rfl⟩
  have l1 : L1.length ≤ 1000003 := by rw [e1]; simp; omega
  rw [← e1] at s1 ⊢
  have s2 : ∀ W, (Op.stringOp .add (str L1) (str (sign op))).run Tryz.prog W = .ok (.string (str (L1 ++ sign op))) W := fun W => add_str L1 (sign op) (by omega) W
  obtain ⟨L2, e2⟩ : ∃ L, L = L1 ++ sign op := ⟨_, rfl⟩
  have l2 : L2.length ≤ 1000005 := by rw [e2]; simp; omega
  rw [← e2] at s2 ⊢
  have s3 : ∀ W, (Op.stringOp .add (str L2) ⟨#[32]⟩).run Tryz.prog W = .ok (.string (str (L2 ++ [32]))) W := fun W => add_str L2 [32] (by simp; omega) W
  obtain ⟨L3, e3⟩ : ∃ L, L = L2 ++ [32] := ⟨_, rfl⟩
  have l3 : L3.length ≤ 1000006 := by rw [e3]; simp; omega
  rw [← e3] at s3 ⊢
  have s4 : ∀ W, (Op.stringOp .add (str L3) (str Bt)).run Tryz.prog W = .ok (.string (str (L3 ++ Bt))) W := fun W => add_str L3 Bt (by omega) W
  obtain ⟨L4, e4⟩ : ∃ L, L = L3 ++ Bt := ⟨_, rfl⟩
  rw [← e4] at s4 ⊢
  have HU := Lib.hid (fun W (hW : Wr w0 g st W) => hW.push L4 (strongOp op) (by omega))
  have HTB := Lib.hid (h.tabs hT)
  have H0 := Lib.hid h.in_
  have hg0 : w0.heap.size ≤ w.heap.size := h.low.size
  have hlt := h.lt
  clear h hT hla hlb e1 e2 e3 e4 l1 l2 l3 lA lB ls h1 h2
  generalize strongOp op = so at *
  generalize sign op = sg at *
  have hw : IntKind.i64.wrap ((so : Int) + 1) = (so : Int) + 1 := IntWalk.i64_in _ (by omega)
  go_enter Tryz.func71, Tryz.ntmps71
  go_wp2_with (first | (go_at_call 120; refine (HSG.out _ HTB.out).mono ?_; rintro e w' ⟨rfl, rfl⟩) | (go_at_call 121; refine (HST.out _).mono ?_; rintro e w' ⟨rfl, rfl⟩) | (go_at_call 122; refine (sides_nat _ _).mono ?_; rw [HSD.out]; rintro e w' ⟨rfl, rfl⟩))
  go_upto_region 3 with fail
  go_cut [6, 7] (fun s6 s7 wx => ∃ b6 b7, s6 = .pointer (some ⟨b6, 0, none⟩) ∧ s7 = .pointer (some ⟨b7, 0, none⟩) ∧ Fin w0 w g st (ta, ka) (tb, kb) b6 b7 wx)
  case first =>
    go_region_with (first
      | (go_at_call 72; refine (HP1.out (World.drew w) H0.out.drew).mono ?_; rintro e w1 ⟨rfl, hw1, hs1, hk1⟩; have H1 := Lib.hid hw1; have HS1 := Lib.hid ((drew_stable w).trans hs1); have hl1 : w.heap.size + 0 ≤ w1.heap.size := (by have := hk1.size; simpa using this); have hlg1 : g < w1.heap.size := H1.out.lt; clear hw1 hs1 hk1 H0)
      | (go_at_call 72; refine (HP1.out (World.alloc (World.drew w) zbox) (H0.out.drew.alloc _)).mono ?_; rintro e w1 ⟨rfl, hw1, hs1, hk1⟩; have H1 := Lib.hid hw1; have HS1 := Lib.hid (((drew_stable w).trans (alloc_stable _ zbox)).trans hs1); have XA : Hid (Zat w1 w.heap.size) := Lib.hid ((Zat.new (World.drew w)).keep hk1 hlt); have hl1 : w.heap.size + 1 ≤ w1.heap.size := (by have := hk1.size; simpa using this); have hlg1 : g < w1.heap.size := H1.out.lt; clear hw1 hs1 hk1 H0)
      | (go_at_call 72; refine (HP1.out (World.alloc (World.alloc (World.drew w) zbox) zbox) ((H0.out.drew.alloc _).alloc _)).mono ?_; rintro e w1 ⟨rfl, hw1, hs1, hk1⟩; have H1 := Lib.hid hw1; have HS1 := Lib.hid ((((drew_stable w).trans (alloc_stable _ zbox)).trans (alloc_stable _ zbox)).trans hs1); have XA : Hid (Zat w1 w.heap.size) := Lib.hid (((Zat.new (World.drew w)).alloc zbox).keep hk1 hlt); have XB : Hid (Zat w1 (w.heap.size + 1)) := Lib.hid (((Zat.new2 (World.drew w))).keep hk1 (Nat.lt_succ_of_lt hlt)); have hl1 : w.heap.size + 2 ≤ w1.heap.size := (by have := hk1.size; simpa using this); have hlg1 : g < w1.heap.size := H1.out.lt; clear hw1 hs1 hk1 H0)
      | (go_at_call 72; (fail_if_success (have := XA)); refine (HP2.out w1 H1.out).mono ?_; rintro e w2 ⟨rfl, hw2, hs2, hk2⟩; have H2 := Lib.hid hw2; have HS2 := Lib.hid (HS1.out.trans hs2); have hl2 : w1.heap.size + 0 ≤ w2.heap.size := (by have := hk2.size; simpa using this); have hlg2 : g < w2.heap.size := H2.out.lt; clear hw2 hs2 hk2)
      | (go_at_call 72; (fail_if_success (have := XA)); refine (HP2.out (World.alloc w1 zbox) (H1.out.alloc _)).mono ?_; rintro e w2 ⟨rfl, hw2, hs2, hk2⟩; have H2 := Lib.hid hw2; have HS2 := Lib.hid ((HS1.out.trans (alloc_stable _ zbox)).trans hs2); have hl2 : w1.heap.size + 1 ≤ w2.heap.size := (by have := hk2.size; simpa using this); have Ya := ((Zat.new w1).keep hk2 hlg1); obtain ⟨⟨ya0, ya1⟩, za0, za1, la⟩ := Ya.facts; have HYa := Lib.hid Ya; clear Ya; have hlg2 : g < w2.heap.size := H2.out.lt; clear hw2 hs2 hk2)
      | (go_at_call 72; (fail_if_success (have := XA)); refine (HP2.out (World.alloc (World.alloc w1 zbox) zbox) ((H1.out.alloc _).alloc _)).mono ?_; rintro e w2 ⟨rfl, hw2, hs2, hk2⟩; have H2 := Lib.hid hw2; have HS2 := Lib.hid (((HS1.out.trans (alloc_stable _ zbox)).trans (alloc_stable _ zbox)).trans hs2); have hl2 : w1.heap.size + 2 ≤ w2.heap.size := (by have := hk2.size; simpa using this); have Ya := ((Zat.alloc (Zat.new w1) zbox).keep hk2 hlg1); obtain ⟨⟨ya0, ya1⟩, za0, za1, la⟩ := Ya.facts; have HYa := Lib.hid Ya; clear Ya; have Yb := ((Zat.new2 w1).keep hk2 (Nat.lt_succ_of_lt hlg1)); obtain ⟨⟨yb0, yb1⟩, zb0, zb1, lb⟩ := Yb.facts; have HYb := Lib.hid Yb; clear Yb; have hlg2 : g < w2.heap.size := H2.out.lt; clear hw2 hs2 hk2)
      | (go_at_call 72; have XA' := XA.out; (fail_if_success (have := XB)); refine (HP2.out w1 H1.out).mono ?_; rintro e w2 ⟨rfl, hw2, hs2, hk2⟩; have H2 := Lib.hid hw2; have HS2 := Lib.hid (HS1.out.trans hs2); have hl2 : w1.heap.size + 0 ≤ w2.heap.size := (by have := hk2.size; simpa using this); have Ya := (XA'.keep hk2 hlt); obtain ⟨⟨ya0, ya1⟩, za0, za1, la⟩ := Ya.facts; have HYa := Lib.hid Ya; clear Ya; have hlg2 : g < w2.heap.size := H2.out.lt; clear hw2 hs2 hk2)
      | (go_at_call 72; have XA' := XA.out; (fail_if_success (have := XB)); refine (HP2.out (World.alloc w1 zbox) (H1.out.alloc _)).mono ?_; rintro e w2 ⟨rfl, hw2, hs2, hk2⟩; have H2 := Lib.hid hw2; have HS2 := Lib.hid ((HS1.out.trans (alloc_stable _ zbox)).trans hs2); have hl2 : w1.heap.size + 1 ≤ w2.heap.size := (by have := hk2.size; simpa using this); have Ya := ((Zat.alloc XA' zbox).keep hk2 hlt); obtain ⟨⟨ya0, ya1⟩, za0, za1, la⟩ := Ya.facts; have HYa := Lib.hid Ya; clear Ya; have Yb := ((Zat.new w1).keep hk2 hlg1); obtain ⟨⟨yb0, yb1⟩, zb0, zb1, lb⟩ := Yb.facts; have HYb := Lib.hid Yb; clear Yb; have hlg2 : g < w2.heap.size := H2.out.lt; clear hw2 hs2 hk2)
      | (go_at_call 72; have XA' := XA.out; have XB' := XB.out; refine (HP2.out w1 H1.out).mono ?_; rintro e w2 ⟨rfl, hw2, hs2, hk2⟩; have H2 := Lib.hid hw2; have HS2 := Lib.hid (HS1.out.trans hs2); have hl2 : w1.heap.size + 0 ≤ w2.heap.size := (by have := hk2.size; simpa using this); have Ya := (XA'.keep hk2 hlt); obtain ⟨⟨ya0, ya1⟩, za0, za1, la⟩ := Ya.facts; have HYa := Lib.hid Ya; clear Ya; have Yb := (XB'.keep hk2 (Nat.lt_succ_of_lt hlt)); obtain ⟨⟨yb0, yb1⟩, zb0, zb1, lb⟩ := Yb.facts; have HYb := Lib.hid Yb; clear Yb; have hlg2 : g < w2.heap.size := H2.out.lt; clear hw2 hs2 hk2))
    all_goals
      go_wp2_with fail
      go_meet
      first
        | exact ⟨_, _, rfl, rfl, Fin.way1 H2.out HS2.out⟩
        | exact ⟨_, _, rfl, rfl, Fin.way2 H2.out HS2.out⟩
        | exact ⟨_, _, rfl, rfl, Fin.way3 H2.out HS2.out hlt hg0 HYa.out (by omega)⟩
        | exact ⟨_, _, rfl, rfl, Fin.way4 H2.out HS2.out hlt hg0 HYa.out (by omega)⟩
        | exact ⟨_, _, rfl, rfl, Fin.way5 H2.out HS2.out hlt hg0 HYa.out HYb.out (by omega) (by omega) (by omega)⟩
        | exact ⟨_, _, rfl, rfl, Fin.way5 H2.out HS2.out hlt hg0 HYb.out HYa.out (by omega) (by omega) (by omega)⟩
  case rest =>
    obtain ⟨b6, b7, rfl, rfl, hfin⟩ := hcut
    obtain ⟨⟨p00, p01⟩, ⟨q00, q01⟩, r0⟩ := hfin.facts
    have F0 := Lib.hid hfin
    clear hfin
    go_wp2_with fail
    go_region_with (first
      | (go_at_call 123; (fail_if_success (have := F1)); have F := F0.out.drew; (with_reducible refine (HA.out _).mono ?_); rintro e v1 ⟨rfl, hb1⟩; have G := F.grown hb1; obtain ⟨⟨p10, p11⟩, ⟨q10, q11⟩, r1⟩ := G.facts; have F1 := Lib.hid G; clear F G hb1)
      | (go_at_call 123; (fail_if_success (have := F1)); have F := F0.out.drew; (with_reducible refine (HB.out _).mono ?_); rintro e v1 ⟨rfl, hb1⟩; have G := F.grown hb1; obtain ⟨⟨p10, p11⟩, ⟨q10, q11⟩, r1⟩ := G.facts; have F1 := Lib.hid G; clear F G hb1)
      | (go_at_call 123; have F := F1.out; (with_reducible refine (HA.out _).mono ?_); rintro e v2 ⟨rfl, hb2⟩; have G := F.grown hb2; obtain ⟨⟨p20, p21⟩, ⟨q20, q21⟩, r2⟩ := G.facts; have F2 := Lib.hid G; clear F G hb2)
      | (go_at_call 123; have F := F1.out; (with_reducible refine (HB.out _).mono ?_); rintro e v2 ⟨rfl, hb2⟩; have G := F.grown hb2; obtain ⟨⟨p20, p21⟩, ⟨q20, q21⟩, r2⟩ := G.facts; have F2 := Lib.hid G; clear F G hb2)
      | (go_at_call 118; refine (HU.out _ F2.out.wr).mono ?_; rintro e w3 ⟨rfl, hw3, hs3⟩; have H3 := Lib.hid hw3; have HS3 := Lib.hid (F2.out.tree.trans hs3); clear hw3 hs3))
    all_goals
      go_wp2_with fail
      go_end0
      exact ⟨rfl, H3.out, HS3.out⟩
end Go.Proofs.YtpdpofoicdijlaaGreatDoor.Expr
