/- Layer 10 (view): the walk of ViewTells. -/
import Derived.Test.YtdeendceiacajaaVewE
import Derived.Deep.DeepCutAuto
namespace Go.Proofs.Ytdeendceiacajaa.Vew
open Go.RowKit Go.Proofs.Ytdeendceiacajaa.Mem Go.Proofs.Ytdeendceiacajaa.Flow

/-- Views lie in blocks of their own, and memory has only grown. -/
structure Vs (w : World) (l : List (Nat × (Nat → Int))) (W : World) : Prop where
  sits : ∀ p, p ∈ l → Sits W p.1 24 (vewCells p.2)
  low : Below w.heap.size w W
section
variable {w W W' : World} {l : List (Nat × (Nat → Int))}
theorem Vs.grown (h : Vs w l W) (hb : Below W.heap.size W W') : Vs w l W' := ⟨fun p hp => (h.sits p hp).below hb (h.sits p hp).lt, h.low.trans (hb.mono h.low.size)⟩
theorem Vs.alloc (h : Vs w l W) (o : Obj) : Vs w l (W.alloc o) := h.grown (one_low W o)
theorem Vs.cons (h : Vs w l W) (v : Nat → Int) : Vs w ((W.heap.size, v) :: l) (W.alloc (.cells (vewCells v) 24)) :=
  ⟨fun p hp => by
    rcases List.mem_cons.1 hp with rfl | hp
    · exact Sits.new _ _ _
    · exact (h.alloc _).sits p hp, (h.alloc _).low⟩
theorem Vs.get (h : Vs w l W) {g : Nat} {v : Nat → Int} (hm : (g, v) ∈ l) : Sits W g 24 (vewCells v) := h.sits (g, v) hm
theorem Vs.pln (h : Vs w l W) {g : Nat} {v : Nat → Int} (hm : (g, v) ∈ l) {k : Nat} (hk : k < 4) : W.cell? ⟨g, k, none⟩ = some (.int .i64 (v k)) := by
  rw [(h.get hm).cell]; exact at8 v k (by omega)
theorem Vs.rlx (h : Vs w l W) {g : Nat} {v : Nat → Int} (hm : (g, v) ∈ l) {k : Nat} (hk : k < 4) : W.cell? ⟨g, 4 + k, none⟩ = some (.int .i64 (v (k + 4))) := by
  rw [(h.get hm).cell, at8 v (4 + k) (by omega), Nat.add_comm]
end
theorem vs_new (w : World) : Vs w [] w := ⟨fun _ h => (by cases h), Below.refl _ _⟩
theorem vs_two (w : World) (a b : Nat → Int) : Vs w [(w.heap.size + 1, b), (w.heap.size, a)] ((w.alloc (.cells (vewCells a) 24)).alloc (.cells (vewCells b) 24)) := by
  have h := ((vs_new w).cons a).cons b
  rwa [show (w.alloc (.cells (vewCells a) 24)).heap.size = w.heap.size + 1 by simp] at h

def xorF (i n : Int) : Int := bits .xor .i64 n i
theorem xor_any (i n : Int) (w : World) :
    Calls Try.prog 9 #[.int .i64 i, .int .i64 n] w (Made (.returned (.int .i64 (xorF i n))) w) := by
  go_enter Try.func9, Try.ntmps9
  go_wp2
  go_ret
  exact ⟨rfl, Below.refl _ _⟩
theorem xor_says : Says 9 #[] #[] xorF (fun _ => True) where
  enters := enters_of Try.func9 (by kernel_rfl) rfl
  keep := fun _ _ _ _ => trivial
  call := fun i n w _ _ _ => xor_any i n w

def stepM (p r : Int) : Bool := decide (0 ≤ p) && decide (0 ≤ r) && decide (p ≤ r)
def stepW (p r p' r' : Int) : Bool := decide (p ≤ p') && decide (r ≤ r')
def mayK (a : Nat → Int) : Nat → Bool
  | 0 => true
  | k + 1 => mayK a k && stepM (a k) (a (k + 4))
def withK (a b : Nat → Int) : Nat → Bool
  | 0 => true
  | k + 1 => withK a b k && stepW (a k) (a (k + 4)) (b k) (b (k + 4))
theorem may_4 (a : Nat → Int) : mayK a 4 = mayF a := by
  rw [Bool.eq_iff_iff, may_iff]
  simp only [mayK, stepM, Bool.and_eq_true, decide_eq_true_eq, true_and, Nat.zero_add, Nat.reduceAdd]
  refine ⟨fun h => ⟨fun i hi => ?_, fun i hi => ?_⟩, fun ⟨h, k⟩ => ?_⟩
  · rcases (by omega : i = 0 ∨ i = 1 ∨ i = 2 ∨ i = 3 ∨ i = 4 ∨ i = 5 ∨ i = 6 ∨ i = 7) with rfl | rfl | rfl | rfl | rfl | rfl | rfl | rfl <;> omega
  · rcases (by omega : i = 0 ∨ i = 1 ∨ i = 2 ∨ i = 3) with rfl | rfl | rfl | rfl <;> simp only [Nat.zero_add, Nat.reduceAdd] <;> omega
  · have h0 := h 0 (by omega); have h1 := h 1 (by omega); have h2 := h 2 (by omega); have h3 := h 3 (by omega); have h4 := h 4 (by omega); have h5 := h 5 (by omega); have h6 := h 6 (by omega); have h7 := h 7 (by omega)
    have k0 := k 0 (by omega); have k1 := k 1 (by omega); have k2 := k 2 (by omega); have k3 := k 3 (by omega)
    exact ⟨⟨⟨⟨⟨h0, h4⟩, k0⟩, ⟨h1, h5⟩, k1⟩, ⟨h2, h6⟩, k2⟩, ⟨h3, h7⟩, k3⟩
theorem with_4 (a b : Nat → Int) : withK a b 4 = withF a b := by
  rw [Bool.eq_iff_iff, with_iff]
  simp only [withK, stepW, Bool.and_eq_true, decide_eq_true_eq, true_and, Nat.zero_add, Nat.reduceAdd]
  refine ⟨fun h i hi => ?_, fun h => ?_⟩
  · rcases (by omega : i = 0 ∨ i = 1 ∨ i = 2 ∨ i = 3 ∨ i = 4 ∨ i = 5 ∨ i = 6 ∨ i = 7) with rfl | rfl | rfl | rfl | rfl | rfl | rfl | rfl <;> omega
  · have h0 := h 0 (by omega); have h1 := h 1 (by omega); have h2 := h 2 (by omega); have h3 := h 3 (by omega); have h4 := h 4 (by omega); have h5 := h 5 (by omega); have h6 := h 6 (by omega); have h7 := h 7 (by omega)
    exact ⟨⟨⟨⟨h0, h4⟩, h1, h5⟩, h2, h6⟩, h3, h7⟩
theorem flat_pln {W : World} {g : Nat} {a : Nat → Int} (h : Sits W g 24 (vewCells fun i => from_ 4 a (i % 4))) {k : Nat} (hk : k < 4) : W.cell? ⟨g, k, none⟩ = some (.int .i64 (a (k + 4))) := by
  rw [h.cell, at8 _ k (by omega)]; simp only [from_]; rw [Nat.mod_eq_of_lt hk]
theorem flat_rlx {W : World} {g : Nat} {a : Nat → Int} (h : Sits W g 24 (vewCells fun i => from_ 4 a (i % 4))) {k : Nat} (hk : k < 4) : W.cell? ⟨g, 4 + k, none⟩ = some (.int .i64 (a (k + 4))) := by
  rw [h.cell, at8 _ (4 + k) (by omega)]; simp only [from_]; rw [Nat.add_mod_left, Nat.mod_eq_of_lt hk]
theorem maps_pln {W : World} {g : Nat} {a : Nat → Int} (h : Sits W g 24 (vewCells (mapsF xorF a))) {k : Nat} (hk : k < 4) : W.cell? ⟨g, k, none⟩ = some (.int .i64 (bits .xor .i64 (a k) (k : Int))) := by
  rw [h.cell, at8 _ k (by omega)]; simp only [mapsF, xorF]; rw [Nat.mod_eq_of_lt hk]
theorem maps_rlx {W : World} {g : Nat} {a : Nat → Int} (h : Sits W g 24 (vewCells (mapsF xorF a))) {k : Nat} (hk : k < 4) : W.cell? ⟨g, 4 + k, none⟩ = some (.int .i64 (bits .xor .i64 (a (k + 4)) (k : Int))) := by
  rw [h.cell, at8 _ (4 + k) (by omega)]; simp only [mapsF, xorF]; rw [Nat.add_mod_left, Nat.mod_eq_of_lt hk, Nat.add_comm]
def thereF (loc t : Int) : Bool := decide (0 ≤ loc) && decide (loc < 4) && decide (0 ≤ t)
theorem at_out {loc t : Int} {pln : Bool} {k : Nat} (hk : k < 4) (h : thereF loc t = false ∨ (k : Int) ≠ loc) : atF loc t pln k = 0 ∧ atF loc t pln (k + 4) = 0 := by
  have hn : ¬ (0 ≤ loc ∧ loc < 4 ∧ 0 ≤ t) ∨ (k : Int) ≠ loc := by
    rcases h with h | h
    · left; intro hc; rw [thereF, decide_eq_true hc.1, decide_eq_true hc.2.1, decide_eq_true hc.2.2] at h; exact absurd h (by decide)
    · exact .inr h
  unfold atF
  constructor
  · rw [if_neg]; omega
  · rw [if_neg]; omega
theorem at_in {t : Int} {pln : Bool} {k : Nat} (hk : k < 4) (h : thereF k t = true) : atF k t pln k = (if pln = true then t else 0) ∧ atF k t pln (k + 4) = t := by
  have h2 : 0 ≤ t := by
    unfold thereF at h; simp only [Bool.and_eq_true, decide_eq_true_eq] at h; exact h.2
  unfold atF
  constructor
  · cases pln
    · rw [if_neg (by simp; omega), if_neg (by simp)]
    · rw [if_pos (by simp; omega), if_pos rfl]
  · rw [if_pos (by refine ⟨by omega, by omega, h2, .inl (by omega)⟩)]
/-- Where the law stands: the slots that matter, and the views. -/
structure St (w : World) (a b : Nat → Int) (loc t : Int) (pln th : Bool) (g5 g6 g13 g14 g15 g16 : Nat) (x11 x12 x18 x19 x20 : Value) (A : Act) (W : World) : Prop where
  size : A.tmps.size = 240
  defers : A.defers = []
  s2 : slot A.tmps 2 = .int .i64 loc
  s3 : slot A.tmps 3 = .int .i64 t
  s4 : slot A.tmps 4 = .bool pln
  s5 : slot A.tmps 5 = .pointer (some ⟨g5, 0, none⟩)
  s6 : slot A.tmps 6 = .pointer (some ⟨g6, 0, none⟩)
  s11 : slot A.tmps 11 = x11
  s12 : slot A.tmps 12 = x12
  s13 : slot A.tmps 13 = .pointer (some ⟨g13, 0, none⟩)
  s14 : slot A.tmps 14 = .pointer (some ⟨g14, 0, none⟩)
  s15 : slot A.tmps 15 = .pointer (some ⟨g15, 0, none⟩)
  s16 : slot A.tmps 16 = .pointer (some ⟨g16, 0, none⟩)
  s17 : slot A.tmps 17 = .bool th
  s18 : slot A.tmps 18 = x18
  s19 : slot A.tmps 19 = x19
  s20 : slot A.tmps 20 = x20
  vs : Vs w [(g16, mapsF xorF a), (g15, atF loc t pln), (g14, fun i => from_ 4 a (i % 4)), (g13, maxF a b), (g6, b), (g5, a)] W
set_option maxRecDepth 100000 in
set_option maxHeartbeats 4000000 in
theorem tells_any (a b : Nat → Int) (loc t : Int) (pln : Bool) (w : World) :
    Calls Try.prog 3 #[vewV a, vewV b, .int .i64 loc, .int .i64 t, .bool pln] w (Made (.returned (.bool true)) w) := by
  have HV := Lib.hid (vs_two w a b)
  have HJ := Lib.hid (fun g W h => join_one a b g 1 W h)
  have HF := Lib.hid (fun W => flat_any (from_ 4 a) W)
  have HA := Lib.hid (fun W => at_any loc t pln W)
  have HM := Lib.hid (fun W => map_any xor_says a W trivial)
  go_enter Try.func3, Try.ntmps3
  go_wp2_with fail
  have HR : Hid (Sits (((w.alloc (.cells (vewCells a) 24)).alloc (.cells (vewCells b) 24)).alloc (.cells (vewCells b) 24)) (w.heap.size + 1 + 1) 24 (vewCells b)) := Lib.hid (Sits.made (by simp) _ _)
  generalize (w.alloc (.cells (vewCells a) 24)).alloc (.cells (vewCells b) 24) = w0 at HV HR ⊢
  generalize w.heap.size + 1 = g6 at HV HR ⊢
  generalize hg5 : w.heap.size = g5 at HV ⊢
  clear hg5
  have HV1 := Lib.hid (HV.out.alloc (.cells (vewCells b) 24))
  refine (HJ.out _ _ HR.out).mono ?_
  rintro e w1 ⟨rfl, hb⟩
  have HV2 := Lib.hid (HV1.out.grown hb)
  clear hb HV1 HV HR HJ
  go_upto_region 3 with fail
  have HV3 := Lib.hid (HV2.out.cons (maxF a b))
  change Code.wp _ _ _ _ (w1.alloc (.cells (vewCells (maxF a b)) 24))
  generalize w1.alloc (.cells (vewCells (maxF a b)) 24) = w2 at HV3 ⊢
  generalize w1.heap.size = g13 at HV3 ⊢
  clear HV2
  have c4 : w2.cell? ⟨g5, 4, none⟩ = some (.int .i64 (a 4)) := HV3.out.rlx (g := g5) (v := a) (k := 0) (by simp) (by decide)
  have c5 : w2.cell? ⟨g5, 5, none⟩ = some (.int .i64 (a 5)) := HV3.out.rlx (g := g5) (v := a) (k := 1) (by simp) (by decide)
  have c6 : w2.cell? ⟨g5, 6, none⟩ = some (.int .i64 (a 6)) := HV3.out.rlx (g := g5) (v := a) (k := 2) (by simp) (by decide)
  have c7 : w2.cell? ⟨g5, 7, none⟩ = some (.int .i64 (a 7)) := HV3.out.rlx (g := g5) (v := a) (k := 3) (by simp) (by decide)
  go_wp2_with fail
  refine (HF.out _).mono ?_
  rintro e w3 ⟨rfl, hb⟩
  have HV4 := Lib.hid (HV3.out.grown hb)
  clear hb HV3 c4 c5 c6 c7 HF
  go_upto_region 4 with fail
  have HV5 := Lib.hid (HV4.out.cons (fun i => from_ 4 a (i % 4)))
  change Code.wp _ _ _ _ (w3.alloc (.cells (vewCells (fun i => from_ 4 a (i % 4))) 24))
  generalize w3.alloc (.cells (vewCells (fun i => from_ 4 a (i % 4))) 24) = w4 at HV5 ⊢
  generalize w3.heap.size = g14 at HV5 ⊢
  clear HV4
  go_wp2_with fail
  refine (HA.out _).mono ?_
  rintro e w5 ⟨rfl, hb⟩
  have HV6 := Lib.hid (HV5.out.grown hb)
  clear hb HV5 HA
  go_upto_region 5 with fail
  have HV7 := Lib.hid (HV6.out.cons (atF loc t pln))
  change Code.wp _ _ _ _ (w5.alloc (.cells (vewCells (atF loc t pln)) 24))
  generalize w5.alloc (.cells (vewCells (atF loc t pln)) 24) = w6 at HV7 ⊢
  generalize w5.heap.size = g15 at HV7 ⊢
  clear HV6
  have c0 : w6.cell? ⟨g5, 0, none⟩ = some (.int .i64 (a 0)) := (HV7.out.get (g := g5) (v := a) (by simp)).cell 0
  have c1 : w6.cell? ⟨g5, 1, none⟩ = some (.int .i64 (a 1)) := (HV7.out.get (g := g5) (v := a) (by simp)).cell 1
  have c2 : w6.cell? ⟨g5, 2, none⟩ = some (.int .i64 (a 2)) := (HV7.out.get (g := g5) (v := a) (by simp)).cell 2
  have c3 : w6.cell? ⟨g5, 3, none⟩ = some (.int .i64 (a 3)) := (HV7.out.get (g := g5) (v := a) (by simp)).cell 3
  have c4 : w6.cell? ⟨g5, 4, none⟩ = some (.int .i64 (a 4)) := (HV7.out.get (g := g5) (v := a) (by simp)).cell 4
  have c5 : w6.cell? ⟨g5, 5, none⟩ = some (.int .i64 (a 5)) := (HV7.out.get (g := g5) (v := a) (by simp)).cell 5
  have c6 : w6.cell? ⟨g5, 6, none⟩ = some (.int .i64 (a 6)) := (HV7.out.get (g := g5) (v := a) (by simp)).cell 6
  have c7 : w6.cell? ⟨g5, 7, none⟩ = some (.int .i64 (a 7)) := (HV7.out.get (g := g5) (v := a) (by simp)).cell 7
  go_wp2_with fail
  refine (HM.out _).mono ?_
  rintro e w7 ⟨rfl, hb⟩
  have HV8 := Lib.hid (HV7.out.grown hb)
  clear hb HV7 c0 c1 c2 c3 c4 c5 c6 c7 HM
  go_upto_region 6 with fail
  have HV9 := Lib.hid (HV8.out.cons (mapsF xorF a))
  change Code.wp _ _ _ _ (w7.alloc (.cells (vewCells (mapsF xorF a)) 24))
  generalize w7.alloc (.cells (vewCells (mapsF xorF a)) 24) = w8 at HV9 ⊢
  generalize w7.heap.size = g16 at HV9 ⊢
  clear HV8
  refine wp_cut (fun A W => ∃ x18 x19 x20, St w a b loc t pln (thereF loc t) g5 g6 g13 g14 g15 g16 (.bool true) (.bool true) x18 x19 x20 A W) ?rest ?first
  case first =>
    intro J K hJ hK
    by_cases h0 : 0 ≤ loc
    · by_cases h1 : loc < 4
      · by_cases h2 : 0 ≤ t
        · have HE := Lib.hid (show thereF loc t = true by simp [thereF, h0, h1, h2])
          go_wp2_with fail
          refine Met.intro ?_
          go_step
          exact ⟨_, _, _, rfl, rfl, rfl, rfl, rfl, rfl, rfl, rfl, rfl, rfl, rfl, rfl, rfl, by rw [HE.out]; rfl, rfl, rfl, rfl, HV9.out⟩
        · have HE := Lib.hid (show thereF loc t = false by simp [thereF, h2])
          go_wp2_with fail
          refine Met.intro ?_
          go_step
          exact ⟨_, _, _, rfl, rfl, rfl, rfl, rfl, rfl, rfl, rfl, rfl, rfl, rfl, rfl, rfl, by rw [HE.out]; rfl, rfl, rfl, rfl, HV9.out⟩
      · have HE := Lib.hid (show thereF loc t = false by simp [thereF, h1])
        go_wp2_with fail
        refine Met.intro ?_
        go_step
        exact ⟨_, _, _, rfl, rfl, rfl, rfl, rfl, rfl, rfl, rfl, rfl, rfl, rfl, rfl, rfl, by rw [HE.out]; rfl, rfl, rfl, rfl, HV9.out⟩
    · have HE := Lib.hid (show thereF loc t = false by simp [thereF, h0])
      go_wp2_with fail
      refine Met.intro ?_
      go_step
      exact ⟨_, _, _, rfl, rfl, rfl, rfl, rfl, rfl, rfl, rfl, rfl, rfl, rfl, rfl, rfl, by rw [HE.out]; rfl, rfl, rfl, rfl, HV9.out⟩
  case rest =>
    rintro ⟨T, D⟩ W ⟨x18, x19, x20, hS⟩
    generalize hth : thereF loc t = th at hS
    have HTH := Lib.hid hth
    clear hth HV9
    obtain ⟨hsz, hdf, q2, q3, q4, q5, q6, q11, q12, q13, q14, q15, q16, q17, q18, q19, q20, hvs⟩ := hS
    simp only at hsz hdf q2 q3 q4 q5 q6 q11 q12 q13 q14 q15 q16 q17 q18 q19 q20 hvs
    subst hdf
    have hsp := spread T 240 hsz
    simp only [List.range, List.range.loop, List.map_cons, List.map_nil, q2, q3, q4, q5, q6, q11, q12, q13, q14, q15, q16, q17, q18, q19, q20] at hsp
    rw [hsp]
    have HS0 := Lib.hid hvs
    clear hsp hsz hvs q2 q3 q4 q5 q6 q11 q12 q13 q14 q15 q16 q17 q18 q19 q20
    go_wp2_with fail
    refine wp_loop_ghost_k (fun n A W => ∃ k x19 x20, k ≤ 4 ∧ n = 4 - k ∧ St w a b loc t pln th g5 g6 g13 g14 g15 g16 (.bool (mayK a k)) (.bool (withK a b k)) (.int .i64 (k : Nat)) x19 x20 A W) 4 ?_ ?_
    · exact ⟨0, _, _, by omega, by omega, rfl, rfl, rfl, rfl, rfl, rfl, rfl, rfl, rfl, rfl, rfl, rfl, rfl, rfl, rfl, rfl, rfl, HS0.out⟩
    · rintro n ⟨T, D⟩ wr ⟨k, x19, x20, hk, rfl, hS⟩ J K hJ hK
      obtain ⟨hsz, hdf, q2, q3, q4, q5, q6, q11, q12, q13, q14, q15, q16, q17, q18, q19, q20, hvs⟩ := hS
      simp only at hsz hdf q2 q3 q4 q5 q6 q11 q12 q13 q14 q15 q16 q17 q18 q19 q20 hvs
      subst hdf
      have hsp := spread T 240 hsz
      simp only [List.range, List.range.loop, List.map_cons, List.map_nil, q2, q3, q4, q5, q6, q11, q12, q13, q14, q15, q16, q17, q18, q19, q20] at hsp
      rw [hsp]
      have HVk := Lib.hid hvs
      clear hsp hsz hvs q2 q3 q4 q5 q6 q11 q12 q13 q14 q15 q16 q17 q18 q19 q20
      clear HS0
      by_cases hlt : k < 4
      · have j1 : (k : Int) < 4 := by omega
        have j0 : (0 : Int) ≤ (k : Int) := by omega
        have c5p := HVk.out.pln (g := g5) (v := a) (by simp) hlt
        have c5r := HVk.out.rlx (g := g5) (v := a) (by simp) hlt
        go_upto_region 10 with fail
        refine wp_cut (fun A W => ∃ x19 x20, St w a b loc t pln th g5 g6 g13 g14 g15 g16 (.bool (mayK a (k + 1))) (.bool (withK a b k)) (.int .i64 (k : Nat)) x19 x20 A W) ?rest ?first
        case first =>
          intro J K hJ hK
          have HE := Lib.hid (show mayK a (k + 1) = (mayK a k && stepM (a k) (a (k + 4))) from rfl)
          generalize mayK a k = m at HE ⊢
          cases m
          · go_quiet (fail)
            go_wp2_with fail
            refine Met.intro ?_
            go_step
            exact ⟨_, _, rfl, rfl, rfl, rfl, rfl, rfl, rfl, by rw [HE.out]; rfl, rfl, rfl, rfl, rfl, rfl, rfl, rfl, rfl, rfl, (HVk.out.grown (drewN_below (Below.refl _ _) _))⟩
          · by_cases h1 : 0 ≤ a k
            · by_cases h2 : 0 ≤ a (k + 4)
              · have HF := Lib.hid (show stepM (a k) (a (k + 4)) = decide (a k ≤ a (k + 4)) by simp [stepM, h1, h2])
                go_quiet (fail)
                go_wp2_with fail
                refine Met.intro ?_
                go_step
                exact ⟨_, _, rfl, rfl, rfl, rfl, rfl, rfl, rfl, by rw [HE.out, HF.out]; rfl, rfl, rfl, rfl, rfl, rfl, rfl, rfl, rfl, rfl, (HVk.out.grown (drewN_below (Below.refl _ _) _))⟩
              · have HF := Lib.hid (show stepM (a k) (a (k + 4)) = false by simp [stepM, h2])
                go_quiet (fail)
                go_wp2_with fail
                refine Met.intro ?_
                go_step
                exact ⟨_, _, rfl, rfl, rfl, rfl, rfl, rfl, rfl, by rw [HE.out, HF.out]; rfl, rfl, rfl, rfl, rfl, rfl, rfl, rfl, rfl, rfl, (HVk.out.grown (drewN_below (Below.refl _ _) _))⟩
            · have HF := Lib.hid (show stepM (a k) (a (k + 4)) = false by simp [stepM, h1])
              go_quiet (fail)
              go_wp2_with fail
              refine Met.intro ?_
              go_step
              exact ⟨_, _, rfl, rfl, rfl, rfl, rfl, rfl, rfl, by rw [HE.out, HF.out]; rfl, rfl, rfl, rfl, rfl, rfl, rfl, rfl, rfl, rfl, (HVk.out.grown (drewN_below (Below.refl _ _) _))⟩
        case rest =>
          rintro ⟨T, D⟩ W ⟨x19, x20, hS⟩
          obtain ⟨hsz, hdf, q2, q3, q4, q5, q6, q11, q12, q13, q14, q15, q16, q17, q18, q19, q20, hvs⟩ := hS
          simp only at hsz hdf q2 q3 q4 q5 q6 q11 q12 q13 q14 q15 q16 q17 q18 q19 q20 hvs
          subst hdf
          have hsp := spread T 240 hsz
          simp only [List.range, List.range.loop, List.map_cons, List.map_nil, q2, q3, q4, q5, q6, q11, q12, q13, q14, q15, q16, q17, q18, q19, q20] at hsp
          rw [hsp]
          have HV1 := Lib.hid hvs
          clear hsp hsz hvs q2 q3 q4 q5 q6 q11 q12 q13 q14 q15 q16 q17 q18 q19 q20
          clear c5p c5r HVk
          have c5p := HV1.out.pln (g := g5) (v := a) (by simp) hlt
          have c5r := HV1.out.rlx (g := g5) (v := a) (by simp) hlt
          have c6p := HV1.out.pln (g := g6) (v := b) (by simp) hlt
          have c6r := HV1.out.rlx (g := g6) (v := b) (by simp) hlt
          generalize hm1 : mayK a (k + 1) = m1
          have HM1 := Lib.hid hm1
          clear hm1
          go_upto_region 11 with fail
          refine wp_cut (fun A W => ∃ x19 x20, St w a b loc t pln th g5 g6 g13 g14 g15 g16 (.bool m1) (.bool (withK a b (k + 1))) (.int .i64 (k : Nat)) x19 x20 A W) ?rest ?first
          case first =>
            intro J K hJ hK
            have HE := Lib.hid (show withK a b (k + 1) = (withK a b k && stepW (a k) (a (k + 4)) (b k) (b (k + 4))) from rfl)
            generalize withK a b k = n at HE ⊢
            cases n
            · go_quiet (fail)
              go_wp2_with fail
              refine Met.intro ?_
              go_step
              exact ⟨_, _, rfl, rfl, rfl, rfl, rfl, rfl, rfl, rfl, by rw [HE.out]; rfl, rfl, rfl, rfl, rfl, rfl, rfl, rfl, rfl, (HV1.out.grown (drewN_below (Below.refl _ _) _))⟩
            · by_cases h1 : a k ≤ b k
              · have HF := Lib.hid (show stepW (a k) (a (k + 4)) (b k) (b (k + 4)) = decide (a (k + 4) ≤ b (k + 4)) by simp [stepW, h1])
                go_quiet (fail)
                go_wp2_with fail
                refine Met.intro ?_
                go_step
                exact ⟨_, _, rfl, rfl, rfl, rfl, rfl, rfl, rfl, rfl, by rw [HE.out, HF.out]; rfl, rfl, rfl, rfl, rfl, rfl, rfl, rfl, rfl, (HV1.out.grown (drewN_below (Below.refl _ _) _))⟩
              · have HF := Lib.hid (show stepW (a k) (a (k + 4)) (b k) (b (k + 4)) = false by simp [stepW, h1])
                go_quiet (fail)
                go_wp2_with fail
                refine Met.intro ?_
                go_step
                exact ⟨_, _, rfl, rfl, rfl, rfl, rfl, rfl, rfl, rfl, by rw [HE.out, HF.out]; rfl, rfl, rfl, rfl, rfl, rfl, rfl, rfl, rfl, (HV1.out.grown (drewN_below (Below.refl _ _) _))⟩
          case rest =>
            rintro ⟨T, D⟩ W ⟨x19, x20, hS⟩
            obtain ⟨hsz, hdf, q2, q3, q4, q5, q6, q11, q12, q13, q14, q15, q16, q17, q18, q19, q20, hvs⟩ := hS
            simp only at hsz hdf q2 q3 q4 q5 q6 q11 q12 q13 q14 q15 q16 q17 q18 q19 q20 hvs
            subst hdf
            have hsp := spread T 240 hsz
            simp only [List.range, List.range.loop, List.map_cons, List.map_nil, q2, q3, q4, q5, q6, q11, q12, q13, q14, q15, q16, q17, q18, q19, q20] at hsp
            rw [hsp]
            have HV2 := Lib.hid hvs
            clear hsp hsz hvs q2 q3 q4 q5 q6 q11 q12 q13 q14 q15 q16 q17 q18 q19 q20
            clear c5p c5r c6p c6r HV1
            have c5p := HV2.out.pln (g := g5) (v := a) (by simp) hlt
            have c5r := HV2.out.rlx (g := g5) (v := a) (by simp) hlt
            generalize hn1 : withK a b (k + 1) = n1
            have HN1 := Lib.hid hn1
            clear hn1
            go_upto_region 12 with fail
            refine wp_cut (fun A W => St w a b loc t pln th g5 g6 g13 g14 g15 g16 (.bool m1) (.bool n1) (.int .i64 (k : Nat)) (.int .i64 (a k)) (.int .i64 (a (k + 4))) A W) ?rest ?first
            case first =>
              intro J K hJ hK
              go_quiet (fail)
              go_wp2_with fail
              refine Met.intro ?_
              go_step
              exact ⟨rfl, rfl, rfl, rfl, rfl, rfl, rfl, rfl, rfl, rfl, rfl, rfl, rfl, rfl, rfl, rfl, rfl, (HV2.out.grown (drewN_below (Below.refl _ _) _))⟩
            case rest =>
              rintro ⟨T, D⟩ W hS
              obtain ⟨hsz, hdf, q2, q3, q4, q5, q6, q11, q12, q13, q14, q15, q16, q17, q18, q19, q20, hvs⟩ := hS
              simp only at hsz hdf q2 q3 q4 q5 q6 q11 q12 q13 q14 q15 q16 q17 q18 q19 q20 hvs
              subst hdf
              have hsp := spread T 240 hsz
              simp only [List.range, List.range.loop, List.map_cons, List.map_nil, q2, q3, q4, q5, q6, q11, q12, q13, q14, q15, q16, q17, q18, q19, q20] at hsp
              rw [hsp]
              have HV3 := Lib.hid hvs
              clear hsp hsz hvs q2 q3 q4 q5 q6 q11 q12 q13 q14 q15 q16 q17 q18 q19 q20
              clear c5p c5r HV2
              have c6p := HV3.out.pln (g := g6) (v := b) (by simp) hlt
              have c6r := HV3.out.rlx (g := g6) (v := b) (by simp) hlt
              go_upto_if 112 with fail
              refine wp_cut (fun A W => St w a b loc t pln th g5 g6 g13 g14 g15 g16 (.bool m1) (.bool n1) (.int .i64 (k : Nat)) (.int .i64 (maxF a b k)) (.int .i64 (a (k + 4))) A W) ?rest ?first
              case first =>
                intro J K hJ hK
                by_cases h1 : a k < b k
                · have HE : Hid (maxF a b k = b k) := Lib.hid (if_pos h1)
                  go_wp2_with fail
                  refine Met.intro ?_
                  go_step
                  exact ⟨rfl, rfl, rfl, rfl, rfl, rfl, rfl, rfl, rfl, rfl, rfl, rfl, rfl, rfl, rfl, by rw [HE.out]; rfl, rfl, HV3.out⟩
                · have HE : Hid (maxF a b k = a k) := Lib.hid (if_neg h1)
                  go_wp2_with fail
                  refine Met.intro ?_
                  go_step
                  exact ⟨rfl, rfl, rfl, rfl, rfl, rfl, rfl, rfl, rfl, rfl, rfl, rfl, rfl, rfl, rfl, by rw [HE.out]; rfl, rfl, HV3.out⟩
              case rest =>
                rintro ⟨T, D⟩ W hS
                obtain ⟨hsz, hdf, q2, q3, q4, q5, q6, q11, q12, q13, q14, q15, q16, q17, q18, q19, q20, hvs⟩ := hS
                simp only at hsz hdf q2 q3 q4 q5 q6 q11 q12 q13 q14 q15 q16 q17 q18 q19 q20 hvs
                subst hdf
                have hsp := spread T 240 hsz
                simp only [List.range, List.range.loop, List.map_cons, List.map_nil, q2, q3, q4, q5, q6, q11, q12, q13, q14, q15, q16, q17, q18, q19, q20] at hsp
                rw [hsp]
                have HV4 := Lib.hid hvs
                clear hsp hsz hvs q2 q3 q4 q5 q6 q11 q12 q13 q14 q15 q16 q17 q18 q19 q20
                clear c6p c6r HV3
                have c6r := HV4.out.rlx (g := g6) (v := b) (by simp) hlt
                go_upto_if 122 with fail
                refine wp_cut (fun A W => St w a b loc t pln th g5 g6 g13 g14 g15 g16 (.bool m1) (.bool n1) (.int .i64 (k : Nat)) (.int .i64 (maxF a b k)) (.int .i64 (maxF a b (k + 4))) A W) ?rest ?first
                case first =>
                  intro J K hJ hK
                  by_cases h1 : a (k + 4) < b (k + 4)
                  · have HE : Hid (maxF a b (k + 4) = b (k + 4)) := Lib.hid (if_pos h1)
                    go_wp2_with fail
                    refine Met.intro ?_
                    go_step
                    exact ⟨rfl, rfl, rfl, rfl, rfl, rfl, rfl, rfl, rfl, rfl, rfl, rfl, rfl, rfl, rfl, rfl, by rw [HE.out]; rfl, HV4.out⟩
                  · have HE : Hid (maxF a b (k + 4) = a (k + 4)) := Lib.hid (if_neg h1)
                    go_wp2_with fail
                    refine Met.intro ?_
                    go_step
                    exact ⟨rfl, rfl, rfl, rfl, rfl, rfl, rfl, rfl, rfl, rfl, rfl, rfl, rfl, rfl, rfl, rfl, by rw [HE.out]; rfl, HV4.out⟩
                case rest =>
                  rintro ⟨T, D⟩ W hS
                  obtain ⟨hsz, hdf, q2, q3, q4, q5, q6, q11, q12, q13, q14, q15, q16, q17, q18, q19, q20, hvs⟩ := hS
                  simp only at hsz hdf q2 q3 q4 q5 q6 q11 q12 q13 q14 q15 q16 q17 q18 q19 q20 hvs
                  subst hdf
                  have hsp := spread T 240 hsz
                  simp only [List.range, List.range.loop, List.map_cons, List.map_nil, q2, q3, q4, q5, q6, q11, q12, q13, q14, q15, q16, q17, q18, q19, q20] at hsp
                  rw [hsp]
                  have HV5 := Lib.hid hvs
                  clear hsp hsz hvs q2 q3 q4 q5 q6 q11 q12 q13 q14 q15 q16 q17 q18 q19 q20
                  clear c6r HV4
                  go_upto_region 17 with fail
                  refine wp_flowG [127, 128, 129, 130, 131, 132, 133, 134, 135, 136, 137, 138, 139, 140, 141, 142, 143, 144, 145, 146, 147, 148, 149, 150, 151, 152, 153, 154, 155, 156, 157, 158, 159, 160, 161, 162, 163, 164, 165, 166, 167, 168, 169, 170, 171, 172, 173, 174, 175, 176, 177, 178, 179, 180, 181, 182, 183, 184, 185, 186, 187] [eqV (.int .i64 (k : Nat)), eqV (.pointer (some ⟨g13, 0, none⟩)), eqV (.pointer (some ⟨g13, k, none⟩)), eqV (.int .i64 (maxF a b k)), eqV (.int .i64 (maxF a b k)), eqV (.bool false), eqV (.bool false), eqV (.int .i64 (k : Nat)), eqV (.pointer (some ⟨g13, 4, none⟩)), eqV (.pointer (some ⟨g13, 4 + k, none⟩)), eqV (.int .i64 (maxF a b (k + 4))), eqV (.int .i64 (maxF a b (k + 4))), eqV (.bool false), eqV (.bool false), eqV (.bool false), eqV (.int .i64 (k : Nat)), eqV (.pointer (some ⟨g14, 0, none⟩)), eqV (.pointer (some ⟨g14, k, none⟩)), eqV (.int .i64 (a (k + 4))), eqV (.int .i64 (k : Nat)), eqV (.pointer (some ⟨g5, 4, none⟩)), eqV (.pointer (some ⟨g5, 4 + k, none⟩)), eqV (.int .i64 (a (k + 4))), eqV (.bool false), eqV (.bool false), eqV (.bool false), eqV (.int .i64 (k : Nat)), eqV (.pointer (some ⟨g14, 4, none⟩)), eqV (.pointer (some ⟨g14, 4 + k, none⟩)), eqV (.int .i64 (a (k + 4))), eqV (.int .i64 (k : Nat)), eqV (.pointer (some ⟨g5, 4, none⟩)), eqV (.pointer (some ⟨g5, 4 + k, none⟩)), eqV (.int .i64 (a (k + 4))), eqV (.bool false), eqV (.bool false), eqV (.bool false), eqV (.int .i64 (k : Nat)), eqV (.pointer (some ⟨g16, 0, none⟩)), eqV (.pointer (some ⟨g16, k, none⟩)), eqV (.int .i64 (bits .xor .i64 (a k) (k : Nat))), eqV (.int .i64 (k : Nat)), eqV (.pointer (some ⟨g5, 0, none⟩)), eqV (.pointer (some ⟨g5, k, none⟩)), eqV (.int .i64 (a k)), eqV (.int .i64 (k : Nat)), eqV (.int .i64 (bits .xor .i64 (a k) (k : Nat))), eqV (.bool false), eqV (.bool false), eqV (.bool false), eqV (.int .i64 (k : Nat)), eqV (.pointer (some ⟨g16, 4, none⟩)), eqV (.pointer (some ⟨g16, 4 + k, none⟩)), eqV (.int .i64 (bits .xor .i64 (a (k + 4)) (k : Nat))), eqV (.int .i64 (k : Nat)), eqV (.pointer (some ⟨g5, 4, none⟩)), eqV (.pointer (some ⟨g5, 4 + k, none⟩)), eqV (.int .i64 (a (k + 4))), eqV (.int .i64 (k : Nat)), eqV (.int .i64 (bits .xor .i64 (a (k + 4)) (k : Nat))), eqV (.bool false)] (by kernel_rfl) (by kernel_rfl) (by kernel_rfl) (by kernel_rfl) (by rfl)
                    (by simp only [List.mem_cons, List.not_mem_nil, or_false, forall_eq_or_imp, forall_eq]; refine ⟨?_, ?_, ?_, ?_, ?_, ?_, ?_, ?_, ?_, ?_, ?_, ?_, ?_, ?_, ?_, ?_, ?_, ?_, ?_, ?_, ?_, ?_, ?_, ?_, ?_, ?_, ?_, ?_, ?_, ?_, ?_, ?_, ?_, ?_, ?_, ?_, ?_, ?_, ?_, ?_, ?_, ?_, ?_, ?_, ?_, ?_, ?_, ?_, ?_, ?_, ?_, ?_, ?_, ?_, ?_, ?_, ?_, ?_, ?_, ?_, ?_⟩ <;> (first | exact eqV_mono _ | exact rowV_mono _ _ _)) ?_ ?_
                  · intro i o hi ho A W hW hk he
                    simp only [List.length_cons, List.length_nil, Nat.zero_add, Nat.reduceAdd] at hi
                    obtain rfl | rfl | rfl | rfl | rfl | rfl | rfl | rfl | rfl | rfl | rfl | rfl | rfl | rfl | rfl | rfl | rfl | rfl | rfl | rfl | rfl | rfl | rfl | rfl | rfl | rfl | rfl | rfl | rfl | rfl | rfl | rfl | rfl | rfl | rfl | rfl | rfl | rfl | rfl | rfl | rfl | rfl | rfl | rfl | rfl | rfl | rfl | rfl | rfl | rfl | rfl | rfl | rfl | rfl | rfl | rfl | rfl | rfl | rfl | rfl | rfl : i = 0 ∨ i = 1 ∨ i = 2 ∨ i = 3 ∨ i = 4 ∨ i = 5 ∨ i = 6 ∨ i = 7 ∨ i = 8 ∨ i = 9 ∨ i = 10 ∨ i = 11 ∨ i = 12 ∨ i = 13 ∨ i = 14 ∨ i = 15 ∨ i = 16 ∨ i = 17 ∨ i = 18 ∨ i = 19 ∨ i = 20 ∨ i = 21 ∨ i = 22 ∨ i = 23 ∨ i = 24 ∨ i = 25 ∨ i = 26 ∨ i = 27 ∨ i = 28 ∨ i = 29 ∨ i = 30 ∨ i = 31 ∨ i = 32 ∨ i = 33 ∨ i = 34 ∨ i = 35 ∨ i = 36 ∨ i = 37 ∨ i = 38 ∨ i = 39 ∨ i = 40 ∨ i = 41 ∨ i = 42 ∨ i = 43 ∨ i = 44 ∨ i = 45 ∨ i = 46 ∨ i = 47 ∨ i = 48 ∨ i = 49 ∨ i = 50 ∨ i = 51 ∨ i = 52 ∨ i = 53 ∨ i = 54 ∨ i = 55 ∨ i = 56 ∨ i = 57 ∨ i = 58 ∨ i = 59 ∨ i = 60 := by omega
                    · injection ho with ho; subst ho
                      refine .inl ⟨wanted_free rfl, ?_⟩
                      have h18 : A.tmps[18]?.getD undef = .int .i64 (k : Nat) := hk 18 (by rfl)
                      go_simp
                      exact ⟨rfl, Below.refl _ _⟩
                    · injection ho with ho; subst ho
                      refine .inl ⟨wanted_free rfl, ?_⟩
                      have h13 : A.tmps[13]?.getD undef = .pointer (some ⟨g13, 0, none⟩) := hk 13 (by rfl)
                      go_simp
                      exact ⟨rfl, Below.refl _ _⟩
                    · injection ho with ho; subst ho
                      refine .inl ⟨wanted_free rfl, ?_⟩
                      have h128 : A.tmps[128]?.getD undef = .pointer (some ⟨g13, 0, none⟩) := he 1 (by kernel_rfl)
                      have h127 : A.tmps[127]?.getD undef = .int .i64 (k : Nat) := he 0 (by kernel_rfl)
                      go_simp
                      exact ⟨rfl, Below.refl _ _⟩
                    · injection ho with ho; subst ho
                      refine .inl ⟨wanted_free rfl, ?_⟩
                      have h129 : A.tmps[129]?.getD undef = .pointer (some ⟨g13, k, none⟩) := he 2 (by kernel_rfl)
                      have c0 := (HV5.out.grown hW).pln (g := g13) (v := maxF a b) (by simp) hlt
                      go_simp
                      exact ⟨rfl, Below.refl _ _⟩
                    · injection ho with ho; subst ho
                      refine .inl ⟨wanted_free rfl, ?_⟩
                      have h19 : A.tmps[19]?.getD undef = .int .i64 (maxF a b k) := hk 19 (by rfl)
                      go_simp
                      exact ⟨rfl, Below.refl _ _⟩
                    · injection ho with ho; subst ho
                      refine .inl ⟨wanted_free rfl, ?_⟩
                      have h130 : A.tmps[130]?.getD undef = .int .i64 (maxF a b k) := he 3 (by kernel_rfl)
                      have h131 : A.tmps[131]?.getD undef = .int .i64 (maxF a b k) := he 4 (by kernel_rfl)
                      go_simp
                      exact ⟨rfl, Below.refl _ _⟩
                    · injection ho with ho; subst ho
                      refine .inl ⟨wanted_free rfl, ?_⟩
                      have h132 : A.tmps[132]?.getD undef = .bool false := he 5 (by kernel_rfl)
                      go_simp
                      exact ⟨rfl, Below.refl _ _⟩
                    · injection ho with ho; subst ho
                      have hg : A.tmps[133]?.getD undef = .bool false := he 6 (by kernel_rfl)
                      refine .inl ⟨wanted_yes (d := 133) rfl (by kernel_rfl) hg, ?_⟩
                      have h18 : A.tmps[18]?.getD undef = .int .i64 (k : Nat) := hk 18 (by rfl)
                      go_simp
                      exact ⟨rfl, Below.refl _ _⟩
                    · injection ho with ho; subst ho
                      have hg : A.tmps[133]?.getD undef = .bool false := he 6 (by kernel_rfl)
                      refine .inl ⟨wanted_yes (d := 133) rfl (by kernel_rfl) hg, ?_⟩
                      have h13 : A.tmps[13]?.getD undef = .pointer (some ⟨g13, 0, none⟩) := hk 13 (by rfl)
                      go_simp
                      exact ⟨rfl, Below.refl _ _⟩
                    · injection ho with ho; subst ho
                      have hg : A.tmps[133]?.getD undef = .bool false := he 6 (by kernel_rfl)
                      refine .inl ⟨wanted_yes (d := 133) rfl (by kernel_rfl) hg, ?_⟩
                      have h135 : A.tmps[135]?.getD undef = .pointer (some ⟨g13, 4, none⟩) := he 8 (by kernel_rfl)
                      have h134 : A.tmps[134]?.getD undef = .int .i64 (k : Nat) := he 7 (by kernel_rfl)
                      go_simp
                      exact ⟨rfl, Below.refl _ _⟩
                    · injection ho with ho; subst ho
                      have hg : A.tmps[133]?.getD undef = .bool false := he 6 (by kernel_rfl)
                      refine .inl ⟨wanted_yes (d := 133) rfl (by kernel_rfl) hg, ?_⟩
                      have h136 : A.tmps[136]?.getD undef = .pointer (some ⟨g13, 4 + k, none⟩) := he 9 (by kernel_rfl)
                      have c0 := (HV5.out.grown hW).rlx (g := g13) (v := maxF a b) (by simp) hlt
                      go_simp
                      exact ⟨rfl, Below.refl _ _⟩
                    · injection ho with ho; subst ho
                      have hg : A.tmps[133]?.getD undef = .bool false := he 6 (by kernel_rfl)
                      refine .inl ⟨wanted_yes (d := 133) rfl (by kernel_rfl) hg, ?_⟩
                      have h20 : A.tmps[20]?.getD undef = .int .i64 (maxF a b (k + 4)) := hk 20 (by rfl)
                      go_simp
                      exact ⟨rfl, Below.refl _ _⟩
                    · injection ho with ho; subst ho
                      have hg : A.tmps[133]?.getD undef = .bool false := he 6 (by kernel_rfl)
                      refine .inl ⟨wanted_yes (d := 133) rfl (by kernel_rfl) hg, ?_⟩
                      have h137 : A.tmps[137]?.getD undef = .int .i64 (maxF a b (k + 4)) := he 10 (by kernel_rfl)
                      have h138 : A.tmps[138]?.getD undef = .int .i64 (maxF a b (k + 4)) := he 11 (by kernel_rfl)
                      go_simp
                      exact ⟨rfl, Below.refl _ _⟩
                    · injection ho with ho; subst ho
                      refine .inl ⟨wanted_free rfl, ?_⟩
                      have h133 : A.tmps[133]?.getD undef = .bool false := he 6 (by kernel_rfl)
                      have h139 : A.tmps[139]?.getD undef = .bool false := he 12 (by kernel_rfl)
                      go_simp
                      exact ⟨rfl, Below.refl _ _⟩
                    · injection ho with ho; subst ho
                      refine .inl ⟨wanted_free rfl, ?_⟩
                      have h140 : A.tmps[140]?.getD undef = .bool false := he 13 (by kernel_rfl)
                      go_simp
                      exact ⟨rfl, Below.refl _ _⟩
                    · injection ho with ho; subst ho
                      have hg : A.tmps[141]?.getD undef = .bool false := he 14 (by kernel_rfl)
                      refine .inl ⟨wanted_yes (d := 141) rfl (by kernel_rfl) hg, ?_⟩
                      have h18 : A.tmps[18]?.getD undef = .int .i64 (k : Nat) := hk 18 (by rfl)
                      go_simp
                      exact ⟨rfl, Below.refl _ _⟩
                    · injection ho with ho; subst ho
                      have hg : A.tmps[141]?.getD undef = .bool false := he 14 (by kernel_rfl)
                      refine .inl ⟨wanted_yes (d := 141) rfl (by kernel_rfl) hg, ?_⟩
                      have h14 : A.tmps[14]?.getD undef = .pointer (some ⟨g14, 0, none⟩) := hk 14 (by rfl)
                      go_simp
                      exact ⟨rfl, Below.refl _ _⟩
                    · injection ho with ho; subst ho
                      have hg : A.tmps[141]?.getD undef = .bool false := he 14 (by kernel_rfl)
                      refine .inl ⟨wanted_yes (d := 141) rfl (by kernel_rfl) hg, ?_⟩
                      have h143 : A.tmps[143]?.getD undef = .pointer (some ⟨g14, 0, none⟩) := he 16 (by kernel_rfl)
                      have h142 : A.tmps[142]?.getD undef = .int .i64 (k : Nat) := he 15 (by kernel_rfl)
                      go_simp
                      exact ⟨rfl, Below.refl _ _⟩
                    · injection ho with ho; subst ho
                      have hg : A.tmps[141]?.getD undef = .bool false := he 14 (by kernel_rfl)
                      refine .inl ⟨wanted_yes (d := 141) rfl (by kernel_rfl) hg, ?_⟩
                      have h144 : A.tmps[144]?.getD undef = .pointer (some ⟨g14, k, none⟩) := he 17 (by kernel_rfl)
                      have c0 := flat_pln ((HV5.out.grown hW).get (g := g14) (v := fun i => from_ 4 a (i % 4)) (by simp)) hlt
                      go_simp
                      exact ⟨rfl, Below.refl _ _⟩
                    · injection ho with ho; subst ho
                      have hg : A.tmps[141]?.getD undef = .bool false := he 14 (by kernel_rfl)
                      refine .inl ⟨wanted_yes (d := 141) rfl (by kernel_rfl) hg, ?_⟩
                      have h18 : A.tmps[18]?.getD undef = .int .i64 (k : Nat) := hk 18 (by rfl)
                      go_simp
                      exact ⟨rfl, Below.refl _ _⟩
                    · injection ho with ho; subst ho
                      have hg : A.tmps[141]?.getD undef = .bool false := he 14 (by kernel_rfl)
                      refine .inl ⟨wanted_yes (d := 141) rfl (by kernel_rfl) hg, ?_⟩
                      have h5 : A.tmps[5]?.getD undef = .pointer (some ⟨g5, 0, none⟩) := hk 5 (by rfl)
                      go_simp
                      exact ⟨rfl, Below.refl _ _⟩
                    · injection ho with ho; subst ho
                      have hg : A.tmps[141]?.getD undef = .bool false := he 14 (by kernel_rfl)
                      refine .inl ⟨wanted_yes (d := 141) rfl (by kernel_rfl) hg, ?_⟩
                      have h147 : A.tmps[147]?.getD undef = .pointer (some ⟨g5, 4, none⟩) := he 20 (by kernel_rfl)
                      have h146 : A.tmps[146]?.getD undef = .int .i64 (k : Nat) := he 19 (by kernel_rfl)
                      go_simp
                      exact ⟨rfl, Below.refl _ _⟩
                    · injection ho with ho; subst ho
                      have hg : A.tmps[141]?.getD undef = .bool false := he 14 (by kernel_rfl)
                      refine .inl ⟨wanted_yes (d := 141) rfl (by kernel_rfl) hg, ?_⟩
                      have h148 : A.tmps[148]?.getD undef = .pointer (some ⟨g5, 4 + k, none⟩) := he 21 (by kernel_rfl)
                      have c0 := (HV5.out.grown hW).rlx (g := g5) (v := a) (by simp) hlt
                      go_simp
                      exact ⟨rfl, Below.refl _ _⟩
                    · injection ho with ho; subst ho
                      have hg : A.tmps[141]?.getD undef = .bool false := he 14 (by kernel_rfl)
                      refine .inl ⟨wanted_yes (d := 141) rfl (by kernel_rfl) hg, ?_⟩
                      have h145 : A.tmps[145]?.getD undef = .int .i64 (a (k + 4)) := he 18 (by kernel_rfl)
                      have h149 : A.tmps[149]?.getD undef = .int .i64 (a (k + 4)) := he 22 (by kernel_rfl)
                      go_simp
                      exact ⟨rfl, Below.refl _ _⟩
                    · injection ho with ho; subst ho
                      refine .inl ⟨wanted_free rfl, ?_⟩
                      have h141 : A.tmps[141]?.getD undef = .bool false := he 14 (by kernel_rfl)
                      have h150 : A.tmps[150]?.getD undef = .bool false := he 23 (by kernel_rfl)
                      go_simp
                      exact ⟨rfl, Below.refl _ _⟩
                    · injection ho with ho; subst ho
                      refine .inl ⟨wanted_free rfl, ?_⟩
                      have h151 : A.tmps[151]?.getD undef = .bool false := he 24 (by kernel_rfl)
                      go_simp
                      exact ⟨rfl, Below.refl _ _⟩
                    · injection ho with ho; subst ho
                      have hg : A.tmps[152]?.getD undef = .bool false := he 25 (by kernel_rfl)
                      refine .inl ⟨wanted_yes (d := 152) rfl (by kernel_rfl) hg, ?_⟩
                      have h18 : A.tmps[18]?.getD undef = .int .i64 (k : Nat) := hk 18 (by rfl)
                      go_simp
                      exact ⟨rfl, Below.refl _ _⟩
                    · injection ho with ho; subst ho
                      have hg : A.tmps[152]?.getD undef = .bool false := he 25 (by kernel_rfl)
                      refine .inl ⟨wanted_yes (d := 152) rfl (by kernel_rfl) hg, ?_⟩
                      have h14 : A.tmps[14]?.getD undef = .pointer (some ⟨g14, 0, none⟩) := hk 14 (by rfl)
                      go_simp
                      exact ⟨rfl, Below.refl _ _⟩
                    · injection ho with ho; subst ho
                      have hg : A.tmps[152]?.getD undef = .bool false := he 25 (by kernel_rfl)
                      refine .inl ⟨wanted_yes (d := 152) rfl (by kernel_rfl) hg, ?_⟩
                      have h154 : A.tmps[154]?.getD undef = .pointer (some ⟨g14, 4, none⟩) := he 27 (by kernel_rfl)
                      have h153 : A.tmps[153]?.getD undef = .int .i64 (k : Nat) := he 26 (by kernel_rfl)
                      go_simp
                      exact ⟨rfl, Below.refl _ _⟩
                    · injection ho with ho; subst ho
                      have hg : A.tmps[152]?.getD undef = .bool false := he 25 (by kernel_rfl)
                      refine .inl ⟨wanted_yes (d := 152) rfl (by kernel_rfl) hg, ?_⟩
                      have h155 : A.tmps[155]?.getD undef = .pointer (some ⟨g14, 4 + k, none⟩) := he 28 (by kernel_rfl)
                      have c0 := flat_rlx ((HV5.out.grown hW).get (g := g14) (v := fun i => from_ 4 a (i % 4)) (by simp)) hlt
                      go_simp
                      exact ⟨rfl, Below.refl _ _⟩
                    · injection ho with ho; subst ho
                      have hg : A.tmps[152]?.getD undef = .bool false := he 25 (by kernel_rfl)
                      refine .inl ⟨wanted_yes (d := 152) rfl (by kernel_rfl) hg, ?_⟩
                      have h18 : A.tmps[18]?.getD undef = .int .i64 (k : Nat) := hk 18 (by rfl)
                      go_simp
                      exact ⟨rfl, Below.refl _ _⟩
                    · injection ho with ho; subst ho
                      have hg : A.tmps[152]?.getD undef = .bool false := he 25 (by kernel_rfl)
                      refine .inl ⟨wanted_yes (d := 152) rfl (by kernel_rfl) hg, ?_⟩
                      have h5 : A.tmps[5]?.getD undef = .pointer (some ⟨g5, 0, none⟩) := hk 5 (by rfl)
                      go_simp
                      exact ⟨rfl, Below.refl _ _⟩
                    · injection ho with ho; subst ho
                      have hg : A.tmps[152]?.getD undef = .bool false := he 25 (by kernel_rfl)
                      refine .inl ⟨wanted_yes (d := 152) rfl (by kernel_rfl) hg, ?_⟩
                      have h158 : A.tmps[158]?.getD undef = .pointer (some ⟨g5, 4, none⟩) := he 31 (by kernel_rfl)
                      have h157 : A.tmps[157]?.getD undef = .int .i64 (k : Nat) := he 30 (by kernel_rfl)
                      go_simp
                      exact ⟨rfl, Below.refl _ _⟩
                    · injection ho with ho; subst ho
                      have hg : A.tmps[152]?.getD undef = .bool false := he 25 (by kernel_rfl)
                      refine .inl ⟨wanted_yes (d := 152) rfl (by kernel_rfl) hg, ?_⟩
                      have h159 : A.tmps[159]?.getD undef = .pointer (some ⟨g5, 4 + k, none⟩) := he 32 (by kernel_rfl)
                      have c0 := (HV5.out.grown hW).rlx (g := g5) (v := a) (by simp) hlt
                      go_simp
                      exact ⟨rfl, Below.refl _ _⟩
                    · injection ho with ho; subst ho
                      have hg : A.tmps[152]?.getD undef = .bool false := he 25 (by kernel_rfl)
                      refine .inl ⟨wanted_yes (d := 152) rfl (by kernel_rfl) hg, ?_⟩
                      have h156 : A.tmps[156]?.getD undef = .int .i64 (a (k + 4)) := he 29 (by kernel_rfl)
                      have h160 : A.tmps[160]?.getD undef = .int .i64 (a (k + 4)) := he 33 (by kernel_rfl)
                      go_simp
                      exact ⟨rfl, Below.refl _ _⟩
                    · injection ho with ho; subst ho
                      refine .inl ⟨wanted_free rfl, ?_⟩
                      have h152 : A.tmps[152]?.getD undef = .bool false := he 25 (by kernel_rfl)
                      have h161 : A.tmps[161]?.getD undef = .bool false := he 34 (by kernel_rfl)
                      go_simp
                      exact ⟨rfl, Below.refl _ _⟩
                    · injection ho with ho; subst ho
                      refine .inl ⟨wanted_free rfl, ?_⟩
                      have h162 : A.tmps[162]?.getD undef = .bool false := he 35 (by kernel_rfl)
                      go_simp
                      exact ⟨rfl, Below.refl _ _⟩
                    · injection ho with ho; subst ho
                      have hg : A.tmps[163]?.getD undef = .bool false := he 36 (by kernel_rfl)
                      refine .inl ⟨wanted_yes (d := 163) rfl (by kernel_rfl) hg, ?_⟩
                      have h18 : A.tmps[18]?.getD undef = .int .i64 (k : Nat) := hk 18 (by rfl)
                      go_simp
                      exact ⟨rfl, Below.refl _ _⟩
                    · injection ho with ho; subst ho
                      have hg : A.tmps[163]?.getD undef = .bool false := he 36 (by kernel_rfl)
                      refine .inl ⟨wanted_yes (d := 163) rfl (by kernel_rfl) hg, ?_⟩
                      have h16 : A.tmps[16]?.getD undef = .pointer (some ⟨g16, 0, none⟩) := hk 16 (by rfl)
                      go_simp
                      exact ⟨rfl, Below.refl _ _⟩
                    · injection ho with ho; subst ho
                      have hg : A.tmps[163]?.getD undef = .bool false := he 36 (by kernel_rfl)
                      refine .inl ⟨wanted_yes (d := 163) rfl (by kernel_rfl) hg, ?_⟩
                      have h165 : A.tmps[165]?.getD undef = .pointer (some ⟨g16, 0, none⟩) := he 38 (by kernel_rfl)
                      have h164 : A.tmps[164]?.getD undef = .int .i64 (k : Nat) := he 37 (by kernel_rfl)
                      go_simp
                      exact ⟨rfl, Below.refl _ _⟩
                    · injection ho with ho; subst ho
                      have hg : A.tmps[163]?.getD undef = .bool false := he 36 (by kernel_rfl)
                      refine .inl ⟨wanted_yes (d := 163) rfl (by kernel_rfl) hg, ?_⟩
                      have h166 : A.tmps[166]?.getD undef = .pointer (some ⟨g16, k, none⟩) := he 39 (by kernel_rfl)
                      have c0 := maps_pln ((HV5.out.grown hW).get (g := g16) (v := mapsF xorF a) (by simp)) hlt
                      go_simp
                      exact ⟨rfl, Below.refl _ _⟩
                    · injection ho with ho; subst ho
                      have hg : A.tmps[163]?.getD undef = .bool false := he 36 (by kernel_rfl)
                      refine .inl ⟨wanted_yes (d := 163) rfl (by kernel_rfl) hg, ?_⟩
                      have h18 : A.tmps[18]?.getD undef = .int .i64 (k : Nat) := hk 18 (by rfl)
                      go_simp
                      exact ⟨rfl, Below.refl _ _⟩
                    · injection ho with ho; subst ho
                      have hg : A.tmps[163]?.getD undef = .bool false := he 36 (by kernel_rfl)
                      refine .inl ⟨wanted_yes (d := 163) rfl (by kernel_rfl) hg, ?_⟩
                      have h5 : A.tmps[5]?.getD undef = .pointer (some ⟨g5, 0, none⟩) := hk 5 (by rfl)
                      go_simp
                      exact ⟨rfl, Below.refl _ _⟩
                    · injection ho with ho; subst ho
                      have hg : A.tmps[163]?.getD undef = .bool false := he 36 (by kernel_rfl)
                      refine .inl ⟨wanted_yes (d := 163) rfl (by kernel_rfl) hg, ?_⟩
                      have h169 : A.tmps[169]?.getD undef = .pointer (some ⟨g5, 0, none⟩) := he 42 (by kernel_rfl)
                      have h168 : A.tmps[168]?.getD undef = .int .i64 (k : Nat) := he 41 (by kernel_rfl)
                      go_simp
                      exact ⟨rfl, Below.refl _ _⟩
                    · injection ho with ho; subst ho
                      have hg : A.tmps[163]?.getD undef = .bool false := he 36 (by kernel_rfl)
                      refine .inl ⟨wanted_yes (d := 163) rfl (by kernel_rfl) hg, ?_⟩
                      have h170 : A.tmps[170]?.getD undef = .pointer (some ⟨g5, k, none⟩) := he 43 (by kernel_rfl)
                      have c0 := (HV5.out.grown hW).pln (g := g5) (v := a) (by simp) hlt
                      go_simp
                      exact ⟨rfl, Below.refl _ _⟩
                    · injection ho with ho; subst ho
                      have hg : A.tmps[163]?.getD undef = .bool false := he 36 (by kernel_rfl)
                      refine .inl ⟨wanted_yes (d := 163) rfl (by kernel_rfl) hg, ?_⟩
                      have h18 : A.tmps[18]?.getD undef = .int .i64 (k : Nat) := hk 18 (by rfl)
                      go_simp
                      exact ⟨rfl, Below.refl _ _⟩
                    · injection ho with ho; subst ho
                      have hg : A.tmps[163]?.getD undef = .bool false := he 36 (by kernel_rfl)
                      refine .inl ⟨wanted_yes (d := 163) rfl (by kernel_rfl) hg, ?_⟩
                      have h171 : A.tmps[171]?.getD undef = .int .i64 (a k) := he 44 (by kernel_rfl)
                      have h172 : A.tmps[172]?.getD undef = .int .i64 (k : Nat) := he 45 (by kernel_rfl)
                      go_simp
                      exact ⟨rfl, Below.refl _ _⟩
                    · injection ho with ho; subst ho
                      have hg : A.tmps[163]?.getD undef = .bool false := he 36 (by kernel_rfl)
                      refine .inl ⟨wanted_yes (d := 163) rfl (by kernel_rfl) hg, ?_⟩
                      have h167 : A.tmps[167]?.getD undef = .int .i64 (bits .xor .i64 (a k) (k : Nat)) := he 40 (by kernel_rfl)
                      have h173 : A.tmps[173]?.getD undef = .int .i64 (bits .xor .i64 (a k) (k : Nat)) := he 46 (by kernel_rfl)
                      go_simp
                      exact ⟨rfl, Below.refl _ _⟩
                    · injection ho with ho; subst ho
                      refine .inl ⟨wanted_free rfl, ?_⟩
                      have h163 : A.tmps[163]?.getD undef = .bool false := he 36 (by kernel_rfl)
                      have h174 : A.tmps[174]?.getD undef = .bool false := he 47 (by kernel_rfl)
                      go_simp
                      exact ⟨rfl, Below.refl _ _⟩
                    · injection ho with ho; subst ho
                      refine .inl ⟨wanted_free rfl, ?_⟩
                      have h175 : A.tmps[175]?.getD undef = .bool false := he 48 (by kernel_rfl)
                      go_simp
                      exact ⟨rfl, Below.refl _ _⟩
                    · injection ho with ho; subst ho
                      have hg : A.tmps[176]?.getD undef = .bool false := he 49 (by kernel_rfl)
                      refine .inl ⟨wanted_yes (d := 176) rfl (by kernel_rfl) hg, ?_⟩
                      have h18 : A.tmps[18]?.getD undef = .int .i64 (k : Nat) := hk 18 (by rfl)
                      go_simp
                      exact ⟨rfl, Below.refl _ _⟩
                    · injection ho with ho; subst ho
                      have hg : A.tmps[176]?.getD undef = .bool false := he 49 (by kernel_rfl)
                      refine .inl ⟨wanted_yes (d := 176) rfl (by kernel_rfl) hg, ?_⟩
                      have h16 : A.tmps[16]?.getD undef = .pointer (some ⟨g16, 0, none⟩) := hk 16 (by rfl)
                      go_simp
                      exact ⟨rfl, Below.refl _ _⟩
                    · injection ho with ho; subst ho
                      have hg : A.tmps[176]?.getD undef = .bool false := he 49 (by kernel_rfl)
                      refine .inl ⟨wanted_yes (d := 176) rfl (by kernel_rfl) hg, ?_⟩
                      have h178 : A.tmps[178]?.getD undef = .pointer (some ⟨g16, 4, none⟩) := he 51 (by kernel_rfl)
                      have h177 : A.tmps[177]?.getD undef = .int .i64 (k : Nat) := he 50 (by kernel_rfl)
                      go_simp
                      exact ⟨rfl, Below.refl _ _⟩
                    · injection ho with ho; subst ho
                      have hg : A.tmps[176]?.getD undef = .bool false := he 49 (by kernel_rfl)
                      refine .inl ⟨wanted_yes (d := 176) rfl (by kernel_rfl) hg, ?_⟩
                      have h179 : A.tmps[179]?.getD undef = .pointer (some ⟨g16, 4 + k, none⟩) := he 52 (by kernel_rfl)
                      have c0 := maps_rlx ((HV5.out.grown hW).get (g := g16) (v := mapsF xorF a) (by simp)) hlt
                      go_simp
                      exact ⟨rfl, Below.refl _ _⟩
                    · injection ho with ho; subst ho
                      have hg : A.tmps[176]?.getD undef = .bool false := he 49 (by kernel_rfl)
                      refine .inl ⟨wanted_yes (d := 176) rfl (by kernel_rfl) hg, ?_⟩
                      have h18 : A.tmps[18]?.getD undef = .int .i64 (k : Nat) := hk 18 (by rfl)
                      go_simp
                      exact ⟨rfl, Below.refl _ _⟩
                    · injection ho with ho; subst ho
                      have hg : A.tmps[176]?.getD undef = .bool false := he 49 (by kernel_rfl)
                      refine .inl ⟨wanted_yes (d := 176) rfl (by kernel_rfl) hg, ?_⟩
                      have h5 : A.tmps[5]?.getD undef = .pointer (some ⟨g5, 0, none⟩) := hk 5 (by rfl)
                      go_simp
                      exact ⟨rfl, Below.refl _ _⟩
                    · injection ho with ho; subst ho
                      have hg : A.tmps[176]?.getD undef = .bool false := he 49 (by kernel_rfl)
                      refine .inl ⟨wanted_yes (d := 176) rfl (by kernel_rfl) hg, ?_⟩
                      have h182 : A.tmps[182]?.getD undef = .pointer (some ⟨g5, 4, none⟩) := he 55 (by kernel_rfl)
                      have h181 : A.tmps[181]?.getD undef = .int .i64 (k : Nat) := he 54 (by kernel_rfl)
                      go_simp
                      exact ⟨rfl, Below.refl _ _⟩
                    · injection ho with ho; subst ho
                      have hg : A.tmps[176]?.getD undef = .bool false := he 49 (by kernel_rfl)
                      refine .inl ⟨wanted_yes (d := 176) rfl (by kernel_rfl) hg, ?_⟩
                      have h183 : A.tmps[183]?.getD undef = .pointer (some ⟨g5, 4 + k, none⟩) := he 56 (by kernel_rfl)
                      have c0 := (HV5.out.grown hW).rlx (g := g5) (v := a) (by simp) hlt
                      go_simp
                      exact ⟨rfl, Below.refl _ _⟩
                    · injection ho with ho; subst ho
                      have hg : A.tmps[176]?.getD undef = .bool false := he 49 (by kernel_rfl)
                      refine .inl ⟨wanted_yes (d := 176) rfl (by kernel_rfl) hg, ?_⟩
                      have h18 : A.tmps[18]?.getD undef = .int .i64 (k : Nat) := hk 18 (by rfl)
                      go_simp
                      exact ⟨rfl, Below.refl _ _⟩
                    · injection ho with ho; subst ho
                      have hg : A.tmps[176]?.getD undef = .bool false := he 49 (by kernel_rfl)
                      refine .inl ⟨wanted_yes (d := 176) rfl (by kernel_rfl) hg, ?_⟩
                      have h184 : A.tmps[184]?.getD undef = .int .i64 (a (k + 4)) := he 57 (by kernel_rfl)
                      have h185 : A.tmps[185]?.getD undef = .int .i64 (k : Nat) := he 58 (by kernel_rfl)
                      go_simp
                      exact ⟨rfl, Below.refl _ _⟩
                    · injection ho with ho; subst ho
                      have hg : A.tmps[176]?.getD undef = .bool false := he 49 (by kernel_rfl)
                      refine .inl ⟨wanted_yes (d := 176) rfl (by kernel_rfl) hg, ?_⟩
                      have h180 : A.tmps[180]?.getD undef = .int .i64 (bits .xor .i64 (a (k + 4)) (k : Nat)) := he 53 (by kernel_rfl)
                      have h186 : A.tmps[186]?.getD undef = .int .i64 (bits .xor .i64 (a (k + 4)) (k : Nat)) := he 59 (by kernel_rfl)
                      go_simp
                      exact ⟨rfl, Below.refl _ _⟩
                  · intro xs W hW hV
                    have e176 : xs 49 = .bool false := hV 49 (by simp)
                    have e187 : xs 60 = .bool false := hV 60 (by simp)
                    simp only [List.length_cons, List.length_nil, Nat.zero_add, Nat.reduceAdd, List.drop_succ_cons, List.drop_zero, putL, Act.put, List.setIfInBounds_toArray, List.set_cons_zero, List.set_cons_succ, e176, e187]
                    clear hV e176 e187
                    have HV6 := Lib.hid (HV5.out.grown hW)
                    clear HV5 hW
                    have c15p := HV6.out.pln (g := g15) (v := atF loc t pln) (by simp) hlt
                    have c15r := HV6.out.rlx (g := g15) (v := atF loc t pln) (by simp) hlt
                    cases th
                    · have hth := HTH.out
                      obtain ⟨x0, x1⟩ := at_out (pln := pln) hlt (.inl hth)
                      rw [x0] at c15p
                      rw [x1] at c15r
                      clear x0 x1 hth
                      go_wp2_with fail
                      refine Handed.intro (4 - (k + 1)) (by omega) ?_
                      refine hJ _ _ _ ?_
                      exact ⟨k + 1, _, _, by omega, rfl, rfl, rfl, rfl, rfl, rfl, rfl, rfl, by rw [HM1.out]; rfl, by rw [HN1.out]; rfl, rfl, rfl, rfl, rfl, rfl, by go_num, rfl, rfl, HV6.out⟩
                    · have hth := HTH.out
                      by_cases hl : (k : Int) = loc
                      · subst hl
                        obtain ⟨x0, x1⟩ := at_in (pln := pln) hlt hth
                        rw [x0] at c15p
                        rw [x1] at c15r
                        clear x0 x1 hth
                        cases pln
                        · rw [if_neg (by decide)] at c15p
                          go_wp2_with fail
                          refine Handed.intro (4 - (k + 1)) (by omega) ?_
                          refine hJ _ _ _ ?_
                          exact ⟨k + 1, _, _, by omega, rfl, rfl, rfl, rfl, rfl, rfl, rfl, rfl, by rw [HM1.out]; rfl, by rw [HN1.out]; rfl, rfl, rfl, rfl, rfl, rfl, by go_num, rfl, rfl, HV6.out⟩
                        · rw [if_pos rfl] at c15p
                          go_wp2_with fail
                          refine Handed.intro (4 - (k + 1)) (by omega) ?_
                          refine hJ _ _ _ ?_
                          exact ⟨k + 1, _, _, by omega, rfl, rfl, rfl, rfl, rfl, rfl, rfl, rfl, by rw [HM1.out]; rfl, by rw [HN1.out]; rfl, rfl, rfl, rfl, rfl, rfl, by go_num, rfl, rfl, HV6.out⟩
                      · obtain ⟨x0, x1⟩ := at_out (t := t) (pln := pln) hlt (.inr hl)
                        rw [x0] at c15p
                        rw [x1] at c15r
                        have hb : ((k : Int) == loc) = false := beq_eq_false_iff_ne.2 hl
                        clear x0 x1 hth hl
                        go_wp2_with fail
                        refine Handed.intro (4 - (k + 1)) (by omega) ?_
                        refine hJ _ _ _ ?_
                        exact ⟨k + 1, _, _, by omega, rfl, rfl, rfl, rfl, rfl, rfl, rfl, rfl, by rw [HM1.out]; rfl, by rw [HN1.out]; rfl, rfl, rfl, rfl, rfl, rfl, by go_num, rfl, rfl, HV6.out⟩
      · obtain rfl : k = 4 := by omega
        rw [may_4, with_4]
        have HQ : Hid (∀ W, (binOp .eql 24 (vewV a) (vewV a)).run Try.prog W = .ok (.bool true) W) := Lib.hid (fun W => by rw [eql_vew, show sameF 8 a a = true from same_iff.2 fun _ _ => rfl])
        go_wp2_with fail
        refine wp_flowG [220, 221, 222, 223, 224, 225, 226, 227, 228, 229, 230, 231, 232, 233, 234, 235, 236, 237, 238, 239] [eqV (vewV a), eqV (.bool (mayF a)), eqV (.bool (mayF a)), eqV (.bool true), eqV (.bool true), eqV (vewV a), eqV (vewV b), eqV (.bool (withF a b)), eqV (.bool (withF a b)), eqV (.bool true), eqV (.bool true), eqV (.bool true), eqV (vewV a), eqV (vewV a), eqV (vewV a), eqV (.bool true), eqV (.bool true), eqV (.bool true), eqV (.bool true), eqV (.bool true)] (by kernel_rfl) (by kernel_rfl) (by kernel_rfl) (by kernel_rfl) (by rfl)
          (by simp only [List.mem_cons, List.not_mem_nil, or_false, forall_eq_or_imp, forall_eq]; refine ⟨?_, ?_, ?_, ?_, ?_, ?_, ?_, ?_, ?_, ?_, ?_, ?_, ?_, ?_, ?_, ?_, ?_, ?_, ?_, ?_⟩ <;> (first | exact eqV_mono _ | exact rowV_mono _ _ _)) ?_ ?_
        · intro i o hi ho A W hW hk he
          simp only [List.length_cons, List.length_nil, Nat.zero_add, Nat.reduceAdd] at hi
          obtain rfl | rfl | rfl | rfl | rfl | rfl | rfl | rfl | rfl | rfl | rfl | rfl | rfl | rfl | rfl | rfl | rfl | rfl | rfl | rfl : i = 0 ∨ i = 1 ∨ i = 2 ∨ i = 3 ∨ i = 4 ∨ i = 5 ∨ i = 6 ∨ i = 7 ∨ i = 8 ∨ i = 9 ∨ i = 10 ∨ i = 11 ∨ i = 12 ∨ i = 13 ∨ i = 14 ∨ i = 15 ∨ i = 16 ∨ i = 17 ∨ i = 18 ∨ i = 19 := by omega
          · injection ho with ho; subst ho
            refine .inl ⟨wanted_free rfl, ?_⟩
            have h5 : A.tmps[5]?.getD undef = .pointer (some ⟨g5, 0, none⟩) := hk 5 (by rfl)
            have c0 := ((HVk.out.grown hW).get (g := g5) (v := a) (by simp)).cell 0
            have c1 := ((HVk.out.grown hW).get (g := g5) (v := a) (by simp)).cell 1
            have c2 := ((HVk.out.grown hW).get (g := g5) (v := a) (by simp)).cell 2
            have c3 := ((HVk.out.grown hW).get (g := g5) (v := a) (by simp)).cell 3
            have c4 := ((HVk.out.grown hW).get (g := g5) (v := a) (by simp)).cell 4
            have c5 := ((HVk.out.grown hW).get (g := g5) (v := a) (by simp)).cell 5
            have c6 := ((HVk.out.grown hW).get (g := g5) (v := a) (by simp)).cell 6
            have c7 := ((HVk.out.grown hW).get (g := g5) (v := a) (by simp)).cell 7
            go_simp
            exact ⟨rfl, Below.refl _ _⟩
          · injection ho with ho; subst ho
            refine .inl ⟨wanted_free rfl, ?_⟩
            have h220 : A.tmps[220]?.getD undef = vewV a := he 0 (by kernel_rfl)
            go_simp
            refine Calls.mono (may_any a W) ?_
            rintro e' w' ⟨rfl, hb⟩
            exact ⟨_, rfl, rfl, hb⟩
          · injection ho with ho; subst ho
            refine .inl ⟨wanted_free rfl, ?_⟩
            have h11 : A.tmps[11]?.getD undef = .bool (mayF a) := hk 11 (by rfl)
            go_simp
            exact ⟨rfl, Below.refl _ _⟩
          · injection ho with ho; subst ho
            refine .inl ⟨wanted_free rfl, ?_⟩
            have h221 : A.tmps[221]?.getD undef = .bool (mayF a) := he 1 (by kernel_rfl)
            have h222 : A.tmps[222]?.getD undef = .bool (mayF a) := he 2 (by kernel_rfl)
            go_simp
            exact ⟨rfl, Below.refl _ _⟩
          · injection ho with ho; subst ho
            refine .inl ⟨wanted_free rfl, ?_⟩
            have h223 : A.tmps[223]?.getD undef = .bool true := he 3 (by kernel_rfl)
            go_simp
            exact ⟨rfl, Below.refl _ _⟩
          · injection ho with ho; subst ho
            have hg : A.tmps[224]?.getD undef = .bool true := he 4 (by kernel_rfl)
            refine .inl ⟨wanted_yes (d := 224) rfl (by kernel_rfl) hg, ?_⟩
            have h5 : A.tmps[5]?.getD undef = .pointer (some ⟨g5, 0, none⟩) := hk 5 (by rfl)
            have c0 := ((HVk.out.grown hW).get (g := g5) (v := a) (by simp)).cell 0
            have c1 := ((HVk.out.grown hW).get (g := g5) (v := a) (by simp)).cell 1
            have c2 := ((HVk.out.grown hW).get (g := g5) (v := a) (by simp)).cell 2
            have c3 := ((HVk.out.grown hW).get (g := g5) (v := a) (by simp)).cell 3
            have c4 := ((HVk.out.grown hW).get (g := g5) (v := a) (by simp)).cell 4
            have c5 := ((HVk.out.grown hW).get (g := g5) (v := a) (by simp)).cell 5
            have c6 := ((HVk.out.grown hW).get (g := g5) (v := a) (by simp)).cell 6
            have c7 := ((HVk.out.grown hW).get (g := g5) (v := a) (by simp)).cell 7
            go_simp
            exact ⟨rfl, Below.refl _ _⟩
          · injection ho with ho; subst ho
            have hg : A.tmps[224]?.getD undef = .bool true := he 4 (by kernel_rfl)
            refine .inl ⟨wanted_yes (d := 224) rfl (by kernel_rfl) hg, ?_⟩
            have h6 : A.tmps[6]?.getD undef = .pointer (some ⟨g6, 0, none⟩) := hk 6 (by rfl)
            have c0 := ((HVk.out.grown hW).get (g := g6) (v := b) (by simp)).cell 0
            have c1 := ((HVk.out.grown hW).get (g := g6) (v := b) (by simp)).cell 1
            have c2 := ((HVk.out.grown hW).get (g := g6) (v := b) (by simp)).cell 2
            have c3 := ((HVk.out.grown hW).get (g := g6) (v := b) (by simp)).cell 3
            have c4 := ((HVk.out.grown hW).get (g := g6) (v := b) (by simp)).cell 4
            have c5 := ((HVk.out.grown hW).get (g := g6) (v := b) (by simp)).cell 5
            have c6 := ((HVk.out.grown hW).get (g := g6) (v := b) (by simp)).cell 6
            have c7 := ((HVk.out.grown hW).get (g := g6) (v := b) (by simp)).cell 7
            go_simp
            exact ⟨rfl, Below.refl _ _⟩
          · injection ho with ho; subst ho
            have hg : A.tmps[224]?.getD undef = .bool true := he 4 (by kernel_rfl)
            refine .inl ⟨wanted_yes (d := 224) rfl (by kernel_rfl) hg, ?_⟩
            have h225 : A.tmps[225]?.getD undef = vewV a := he 5 (by kernel_rfl)
            have h226 : A.tmps[226]?.getD undef = vewV b := he 6 (by kernel_rfl)
            go_simp
            refine Calls.mono (within_any a b W) ?_
            rintro e' w' ⟨rfl, hb⟩
            exact ⟨_, rfl, rfl, hb⟩
          · injection ho with ho; subst ho
            have hg : A.tmps[224]?.getD undef = .bool true := he 4 (by kernel_rfl)
            refine .inl ⟨wanted_yes (d := 224) rfl (by kernel_rfl) hg, ?_⟩
            have h12 : A.tmps[12]?.getD undef = .bool (withF a b) := hk 12 (by rfl)
            go_simp
            exact ⟨rfl, Below.refl _ _⟩
          · injection ho with ho; subst ho
            have hg : A.tmps[224]?.getD undef = .bool true := he 4 (by kernel_rfl)
            refine .inl ⟨wanted_yes (d := 224) rfl (by kernel_rfl) hg, ?_⟩
            have h227 : A.tmps[227]?.getD undef = .bool (withF a b) := he 7 (by kernel_rfl)
            have h228 : A.tmps[228]?.getD undef = .bool (withF a b) := he 8 (by kernel_rfl)
            go_simp
            exact ⟨rfl, Below.refl _ _⟩
          · injection ho with ho; subst ho
            refine .inl ⟨wanted_free rfl, ?_⟩
            have h224 : A.tmps[224]?.getD undef = .bool true := he 4 (by kernel_rfl)
            have h229 : A.tmps[229]?.getD undef = .bool true := he 9 (by kernel_rfl)
            go_simp
            exact ⟨rfl, Below.refl _ _⟩
          · injection ho with ho; subst ho
            refine .inl ⟨wanted_free rfl, ?_⟩
            have h230 : A.tmps[230]?.getD undef = .bool true := he 10 (by kernel_rfl)
            go_simp
            exact ⟨rfl, Below.refl _ _⟩
          · injection ho with ho; subst ho
            have hg : A.tmps[231]?.getD undef = .bool true := he 11 (by kernel_rfl)
            refine .inl ⟨wanted_yes (d := 231) rfl (by kernel_rfl) hg, ?_⟩
            have h5 : A.tmps[5]?.getD undef = .pointer (some ⟨g5, 0, none⟩) := hk 5 (by rfl)
            have c0 := ((HVk.out.grown hW).get (g := g5) (v := a) (by simp)).cell 0
            have c1 := ((HVk.out.grown hW).get (g := g5) (v := a) (by simp)).cell 1
            have c2 := ((HVk.out.grown hW).get (g := g5) (v := a) (by simp)).cell 2
            have c3 := ((HVk.out.grown hW).get (g := g5) (v := a) (by simp)).cell 3
            have c4 := ((HVk.out.grown hW).get (g := g5) (v := a) (by simp)).cell 4
            have c5 := ((HVk.out.grown hW).get (g := g5) (v := a) (by simp)).cell 5
            have c6 := ((HVk.out.grown hW).get (g := g5) (v := a) (by simp)).cell 6
            have c7 := ((HVk.out.grown hW).get (g := g5) (v := a) (by simp)).cell 7
            go_simp
            exact ⟨rfl, Below.refl _ _⟩
          · injection ho with ho; subst ho
            have hg : A.tmps[231]?.getD undef = .bool true := he 11 (by kernel_rfl)
            refine .inl ⟨wanted_yes (d := 231) rfl (by kernel_rfl) hg, ?_⟩
            have h232 : A.tmps[232]?.getD undef = vewV a := he 12 (by kernel_rfl)
            go_simp
            refine Calls.mono (join_none a W) ?_
            rintro e' w' ⟨rfl, hb⟩
            exact ⟨_, rfl, rfl, hb⟩
          · injection ho with ho; subst ho
            have hg : A.tmps[231]?.getD undef = .bool true := he 11 (by kernel_rfl)
            refine .inl ⟨wanted_yes (d := 231) rfl (by kernel_rfl) hg, ?_⟩
            have h5 : A.tmps[5]?.getD undef = .pointer (some ⟨g5, 0, none⟩) := hk 5 (by rfl)
            have c0 := ((HVk.out.grown hW).get (g := g5) (v := a) (by simp)).cell 0
            have c1 := ((HVk.out.grown hW).get (g := g5) (v := a) (by simp)).cell 1
            have c2 := ((HVk.out.grown hW).get (g := g5) (v := a) (by simp)).cell 2
            have c3 := ((HVk.out.grown hW).get (g := g5) (v := a) (by simp)).cell 3
            have c4 := ((HVk.out.grown hW).get (g := g5) (v := a) (by simp)).cell 4
            have c5 := ((HVk.out.grown hW).get (g := g5) (v := a) (by simp)).cell 5
            have c6 := ((HVk.out.grown hW).get (g := g5) (v := a) (by simp)).cell 6
            have c7 := ((HVk.out.grown hW).get (g := g5) (v := a) (by simp)).cell 7
            go_simp
            exact ⟨rfl, Below.refl _ _⟩
          · injection ho with ho; subst ho
            have hg : A.tmps[231]?.getD undef = .bool true := he 11 (by kernel_rfl)
            refine .inl ⟨wanted_yes (d := 231) rfl (by kernel_rfl) hg, ?_⟩
            have h233 : A.tmps[233]?.getD undef = vewV a := he 13 (by kernel_rfl)
            have h234 : A.tmps[234]?.getD undef = vewV a := he 14 (by kernel_rfl)
            have hq := HQ.out W
            have hgd : ∀ x y, (eqGuard .eql 24 x y (vewV a) (vewV a)).run Try.prog W = .ok () W := fun x y => guard_vew .eql x y (a) (a) W
            generalize vewV a = X at h233 h234 hq hgd
            go_simp
            exact ⟨rfl, Below.refl _ _⟩
          · injection ho with ho; subst ho
            refine .inl ⟨wanted_free rfl, ?_⟩
            have h231 : A.tmps[231]?.getD undef = .bool true := he 11 (by kernel_rfl)
            have h235 : A.tmps[235]?.getD undef = .bool true := he 15 (by kernel_rfl)
            go_simp
            exact ⟨rfl, Below.refl _ _⟩
          · injection ho with ho; subst ho
            refine .inl ⟨wanted_free rfl, ?_⟩
            have h236 : A.tmps[236]?.getD undef = .bool true := he 16 (by kernel_rfl)
            go_simp
            exact ⟨rfl, Below.refl _ _⟩
          · injection ho with ho; subst ho
            have hg : A.tmps[237]?.getD undef = .bool true := he 17 (by kernel_rfl)
            refine .inl ⟨wanted_yes (d := 237) rfl (by kernel_rfl) hg, ?_⟩
            go_simp
            refine Calls.mono (wakes_any W) ?_
            rintro e' w' ⟨rfl, hb⟩
            exact ⟨_, rfl, rfl, hb⟩
          · injection ho with ho; subst ho
            refine .inl ⟨wanted_free rfl, ?_⟩
            have h237 : A.tmps[237]?.getD undef = .bool true := he 17 (by kernel_rfl)
            have h238 : A.tmps[238]?.getD undef = .bool true := he 18 (by kernel_rfl)
            go_simp
            exact ⟨rfl, Below.refl _ _⟩
        · intro xs W hW hV
          have e239 : xs 19 = .bool true := hV 19 (by simp)
          simp only [List.length_cons, List.length_nil, Nat.zero_add, Nat.reduceAdd, List.drop_succ_cons, List.drop_zero, putL, Act.put, List.setIfInBounds_toArray, List.set_cons_zero, List.set_cons_succ, e239]
          clear hV e239
          have HB := Lib.hid (HVk.out.grown hW)
          clear hW
          go_wp2_with fail
          go_ret
          exact ⟨rfl, HB.out.low⟩
end Go.Proofs.Ytdeendceiacajaa.Vew
