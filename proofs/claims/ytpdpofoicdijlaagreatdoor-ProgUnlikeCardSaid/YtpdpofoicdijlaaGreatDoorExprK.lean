/- Layer 3 (expr): the stack of texts. -/
import Derived.Test.YtpdpofoicdijlaaGreatDoorExprJ
import Derived.Deep.AppendLies
namespace Go.Proofs.YtpdpofoicdijlaaGreatDoor.Expr
open Go.RowKit Go.Proofs.YtpdpofoicdijlaaGreatDoor.Mem Go.Lib

/-- A part as it is written, and its strength. -/
def partCells (p : List UInt8 × Nat) : List Value := [.string (str p.1), .int .i64 (p.2 : Nat)]
def parts (st : List (List UInt8 × Nat)) : List Value := st.flatMap partCells
theorem parts_snoc (st : List (List UInt8 × Nat)) (p : List UInt8 × Nat) : parts (st ++ [p]) = parts st ++ partCells p := by simp [parts]
theorem parts_len (st : List (List UInt8 × Nat)) : (parts st).length = st.length * 2 := by
  induction st with
  | nil => rfl
  | cons p st ih => simp only [parts, List.flatMap_cons, List.length_append, List.length_cons] at ih ⊢; rw [ih]; simp [partCells]; omega
def TStk (B g : Nat) (w : World) (st : List (List UInt8 × Nat)) : Prop := ∃ v, Sits w g 142 #[v] ∧ B ≤ g ∧ w.ownsRow B 147 2 v st.length (parts st)
/-- The same, the row in a block below C. -/
def TIn (C B g : Nat) (w : World) (st : List (List UInt8 × Nat)) : Prop := ∃ v, Sits w g 142 #[v] ∧ B ≤ g ∧ w.ownsRow B 147 2 v st.length (parts st) ∧ ∀ b, v.ownBlock = some b → b < C
theorem TStk.in_ {B g : Nat} {w : World} {st : List (List UInt8 × Nat)} (h : TStk B g w st) : TIn w.heap.size B g w st := by
  obtain ⟨v, hs, hB, ho⟩ := h
  exact ⟨v, hs, hB, ho, fun b e => (ho.lt b e).2⟩
theorem TIn.stk {C B g : Nat} {w : World} {st : List (List UInt8 × Nat)} (h : TIn C B g w st) : TStk B g w st := by
  obtain ⟨v, hs, hB, ho, _⟩ := h
  exact ⟨v, hs, hB, ho⟩
def tts : List TypeId := [142, 147]
theorem TStk.keep {B C g : Nat} {w w' : World} {st : List (List UInt8 × Nat)} {ts : List TypeId} (h : TStk B g w st) (hf : Fr C ts w w') (h1 : 142 ∉ ts) (h2 : 147 ∉ ts) : TStk B g w' st := by
  obtain ⟨v, hs, hB, ho⟩ := h
  exact ⟨v, hf.by_ _ h1 _ _ hs, hB, own_stable ho (hf.by_ _ h2)⟩
theorem TIn.keeps {C B g : Nat} {w w' : World} {st : List (List UInt8 × Nat)} {X : Nat → Prop} (h : TIn C B g w st) (hk : Keeps X w w') (h1 : ¬ X g) (h2 : ∀ b, b < C → ¬ X b) : TIn C B g w' st := by
  obtain ⟨v, hs, hB, ho, hc⟩ := h
  refine ⟨v, hs.keep hk h1, hB, ⟨ho.1, ?_⟩, hc⟩
  rcases ho.2 with h3 | ⟨g', cap, cur, rfl, hb, hh, r⟩
  · exact .inl h3
  · exact .inr ⟨g', cap, cur, rfl, hb, Sits.keep hh hk (h2 g' (hc g' rfl)), r⟩
theorem TStk.drew {B g : Nat} {w : World} {st : List (List UInt8 × Nat)} (h : TStk B g w st) : TStk B g w.drew st := h.keep (Fr.drewn B [] w) (by simp) (by simp)
theorem TStk.below {B g : Nat} {w w' : World} {st : List (List UInt8 × Nat)} (h : TStk B g w st) (hb : Below w.heap.size w w') : TStk B g w' st := h.keep (Fr.below (ts := []) hb (Nat.le_refl _)) (by simp) (by simp)
theorem writtenInfo : (Tryz.prog.info? 147).map (fun i => (i.zero, i.size, i.bytes)) = some (some (.agg #[.string .empty, .int .i64 0]), 2, 24) := by kernel_rfl

theorem part_at (W : World) (p : List UInt8 × Nat) : ∀ j u, (partCells p)[j]? = some u → ((W.alloc (.cells #[.string (str p.1), .int .i64 (p.2 : Nat)] 147)).drew).cell? ((⟨W.heap.size, 0, none⟩ : Addr).add j) = some u := by
  intro j u hu
  have := ((Sits.new W 147 #[.string (str p.1), .int .i64 (p.2 : Nat)]).drew).cell j
  rw [Addr.add_lit, Nat.zero_add, this]
  simpa [partCells] using hu
theorem part_one (p : List UInt8 × Nat) : ∀ u ∈ partCells p, u.oneCell' = true := by
  intro u hu
  simp only [partCells, List.mem_cons, List.not_mem_nil, or_false] at hu
  rcases hu with rfl | rfl <;> rfl
def TPushed (B g : Nat) (st : List (List UInt8 × Nat)) (w : World) (e : Ending) (w' : World) : Prop := e = .returned (.tuple #[]) ∧ TStk B g w' st ∧ Fr B tts w w'
set_option maxRecDepth 100000 in
set_option maxHeartbeats 2000000 in
theorem push_text (B g : Nat) (st : List (List UInt8 × Nat)) (l : List UInt8) (k : Nat) (w : World) (hB : B ≤ w.heap.size) (hl : st.length ≤ 1000) (h : TStk B g w st) :
    Calls Tryz.prog 118 #[.pointer (some ⟨g, 0, none⟩), .agg #[.string (str l), .int .i64 (k : Nat)]] w (TPushed B g (st ++ [(l, k)]) w) := by
  obtain ⟨i0, hi, hz0, hz1, hz2⟩ := info_parts writtenInfo
  have hb0 : Below w.heap.size w (w.alloc (.cells #[.string (str l), .int .i64 (k : Nat)] 147)) := (Below.refl _ _).alloc (Nat.le_refl _) _
  obtain ⟨v, hs0, hBg, ho0⟩ := h
  have ab : v.ownBlock ≠ some w.heap.size := fun e => by have := (ho0.lt _ e).2; omega
  have hs := hs0.alloc (.cells #[.string (str l), .int .i64 (k : Nat)] 147)
  have ho := ho0.alloc (.cells #[.string (str l), .int .i64 (k : Nat)] 147)
  have hbx := Sits.new w 147 #[.string (str l), .int .i64 (k : Nat)]
  have HF0 := Lib.hid (Fr.below (B := B) (ts := tts) hb0 hB)
  have hwW : w.heap.size < (w.alloc (.cells #[.string (str l), .int .i64 (k : Nat)] 147)).heap.size := by simp
  have hlt0 : g < w.heap.size := hs0.lt
  clear hb0 hs0 ho0
  go_enter Tryz.func118, Tryz.ntmps118
  go_wp2_with fail
  change Code.wp _ _ _ _ (w.alloc (.cells #[.string (str l), .int .i64 (k : Nat)] 147))
  generalize w.alloc (.cells #[.string (str l), .int .i64 (k : Nat)] 147) = W at hs ho hbx HF0 hwW ⊢
  have c0 : W.cell? ⟨g, 0, none⟩ = some v := hs.cell 0
  have b0 : W.cell? ⟨w.heap.size, 0, none⟩ = some (.string (str l)) := hbx.cell 0
  have b1 : W.cell? ⟨w.heap.size, 1, none⟩ = some (.int .i64 (k : Nat)) := hbx.cell 1
  have hBW : B ≤ W.heap.size := by omega
  have hgW : g < W.heap.size := by omega
  have f0 := hs.free 0
  have af := own_far ho hs (by decide)
  have HS := Lib.hid hs
  have HBX := Lib.hid hbx
  clear hbx hs
  go_region_law ((refine step_append_lies _ (by rfl) _ _ _ (by rfl) B 147 i0 _ 2 24 Tryz.underlying138 hi hz0 hz1 hz2 rfl (by omega) v st.length (parts st) (by rfl) ((ho.alloc _).drew) ⟨W.heap.size, 0, none⟩ 1 1 [.string (str l), .int .i64 (k : Nat)] (by rfl) (by rfl) (part_at W (l, k)) (part_one (l, k)) (by omega) (by unfold maxLen; omega) (by omega) (by simp; omega) (W.heap.size + 1) (by simp) ?_; intro gg cap w1 hown1 hgrow hat hlt1; have S1 := Lib.hid ((HS.out.alloc _).drew.grown hgrow af); have c1 : w1.cell? ⟨g, 0, none⟩ = some v := S1.out.cell 0; have f1 := S1.out.free 0; have hgl1 := S1.out.lt))
  all_goals
    have HF1 : Hid (Fr B tts W w1) := Lib.hid ⟨(((Below.refl B W).alloc hBW _).drew).grown hgrow (by simp; omega) (fun k hk => (ho.lt k hk).1), fun t ht => (Stable.below (((Below.refl _ W).alloc (Nat.le_refl _) _).drew)).trans (grown_stable ((ho.alloc _).drew) hgrow (fun e => ht (by rw [← e]; decide)))⟩
    have HO1 := Lib.hid hown1
    clear hown1 hgrow
    go_wp2_with fail
    go_end0
    exact ⟨rfl, ⟨_, S1.out.put 0 _, hBg, by rw [List.length_append, parts_snoc]; exact own_stable HO1.out (Stable.put S1.out (by decide) 0 _)⟩, (HF0.out.trans HF1.out).trans ⟨(Below.refl _ _).setCell hBg _, fun t ht => Stable.put S1.out (fun e => ht (by rw [e]; decide)) 0 _⟩⟩

/-! ### pop, of texts -/
def TPopped (C B g : Nat) (p : List UInt8 × Nat) (st : List (List UInt8 × Nat)) (w : World) (e : Ending) (w' : World) : Prop := e = .returned (.agg #[.string (str p.1), .int .i64 (p.2 : Nat)]) ∧ TIn C B g w' st ∧ Fr B tts w w' ∧ Keeps (fun b => b = g) w w'
set_option maxRecDepth 100000 in
set_option maxHeartbeats 1000000 in
theorem pop_text (C B g : Nat) (st : List (List UInt8 × Nat)) (l : List UInt8) (k : Nat) (w : World) (hB : B ≤ w.heap.size) (hl : st.length ≤ 1000) (h : TIn C B g w (st ++ [(l, k)])) :
    Calls Tryz.prog 72 #[.pointer (some ⟨g, 0, none⟩)] w (TPopped C B g (l, k) st w) := by
  obtain ⟨v, hs, hBg, ho, hC⟩ := h
  rw [List.length_append, parts_snoc] at ho
  obtain ⟨g1, cap, rfl, hc1, hc2, hlt1, hcell, ho2⟩ := own_last (ys := partCells (l, k)) ho (parts_len st)
  have c0 : w.cell? ⟨g, 0, none⟩ = some (.slice (some ⟨g1, 0, none⟩) (st.length + 1) cap) := hs.cell 0
  have f0 := hs.free 0
  have hlt := hs.lt
  have cx : w.cell? ⟨g1, st.length * 2, none⟩ = some (.string (str l)) := by have := hcell 0 _ rfl; simpa using this
  have cy : w.cell? ⟨g1, st.length * 2 + 1, none⟩ = some (.int .i64 (k : Nat)) := hcell 1 _ rfl
  have HS := Lib.hid hs
  have HO := Lib.hid ho2
  have HC := Lib.hid (hC g1 rfl)
  have i1 : (0 : Int) ≤ (st.length : Int) := by omega
  have i2 : (st.length : Int) ≤ 1000 := by omega
  have i3 : (st.length : Int) + 1 ≤ cap := by omega
  unfold maxLen at hc2
  clear hs ho ho2 hcell hC
  go_enter Tryz.func72, Tryz.ntmps72
  go_wp2_with fail
  go_region
  all_goals
    go_wp2_with fail
    refine bodyPost_ret (v := .agg #[.string (str l), .int .i64 (k : Nat)]) (by simp [results, go_sem]) rfl ?_
    have HS2 := HS.out.put 0 (.slice (some ⟨g1, 0, none⟩) st.length cap)
    have hp : Fr B tts w (w.setCell ⟨g, 0, none⟩ (.slice (some ⟨g1, 0, none⟩) st.length cap)) := ⟨(Below.refl _ _).setCell hBg _, fun t ht => Stable.put HS.out (fun e => ht (by rw [e]; decide)) 0 _⟩
    have hk : Keeps (fun b => b = g) w (w.setCell ⟨g, 0, none⟩ (.slice (some ⟨g1, 0, none⟩) st.length cap)) := (Keeps.refl (fun b => b = g) w).put (p := ⟨g, 0, none⟩) (.inl (Eq.refl g)) _
    have hs0 : TIn C B g (w.setCell ⟨g, 0, none⟩ (.slice (some ⟨g1, 0, none⟩) st.length cap)) st := ⟨_, HS2, hBg, own_stable HO.out (Stable.put HS.out (by decide) 0 _), fun b e => by cases e; exact HC.out⟩
    generalize w.setCell ⟨g, 0, none⟩ (.slice (some ⟨g1, 0, none⟩) st.length cap) = W at hs0 hp hk ⊢
    have hb := ((((Below.refl W.heap.size W).alloc (Nat.le_refl _) (.cells #[.string (str l), .int .i64 (k : Nat)] 147)).alloc (by simp) (.cells #[.string (str l), .int .i64 (k : Nat)] 147)).drew)
    exact ⟨rfl, hs0.keeps (Keeps.of_below (X := fun _ => False) hb) (fun h => h) (fun _ _ h => h), hp.trans (Fr.below hb (Nat.le_trans hB hp.size)), hk.trans (Keeps.of_below hb)⟩
theorem tpop_none (C B g : Nat) (w : World) (hB : B ≤ w.heap.size) (h : TIn C B g w []) : Calls Tryz.prog 72 #[.pointer (some ⟨g, 0, none⟩)] w (TPopped C B g ([], 0) [] w) := by
  have HV := Lib.hid h
  obtain ⟨v, hs, hBg, ho, _⟩ := h
  obtain ⟨p, cap, rfl⟩ := own_slice ho
  have c0 : w.cell? ⟨g, 0, none⟩ = some (.slice p 0 cap) := hs.cell 0
  have hlt := hs.lt
  clear hs ho
  go_enter Tryz.func72, Tryz.ntmps72
  go_wp2_with fail
  refine bodyPost_ret (v := .agg #[.string ⟨#[]⟩, .int .i64 0]) (by simp [results, go_sem]) rfl ?_
  have hb := (((Below.refl w.heap.size w).alloc (Nat.le_refl _) (.cells #[.string ⟨#[]⟩, .int .i64 0] 147)).alloc (by simp) (.cells #[.string ⟨#[]⟩, .int .i64 0] 147))
  exact ⟨rfl, HV.out.keeps (Keeps.of_below (X := fun _ => False) hb) (fun h => h) (fun _ _ h => h), Fr.below hb hB, Keeps.of_below hb⟩
end Go.Proofs.YtpdpofoicdijlaaGreatDoor.Expr
