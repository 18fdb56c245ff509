/- Layer 9 (span): the contracts of the document's own answers: May, Apart, Less of pairs of times. -/
import Derived.Test.YtgkgpehjedmejaaSpnB
import Derived.Deep.QuietTactic
import Derived.BigQuiet
namespace Go.Proofs.Ytgkgpehjedmejaa.Spn
open Go.RowKit Go.Proofs.Ytgkgpehjedmejaa.Mem

abbrev pairV (a b : Int) : Value := .agg #[.int .i64 a, .int .i64 b]
theorem rmay_any (a b : Int) (w : World) :
    Calls Try.prog 23 #[pairV a b] w fun e w' => e = .returned (.bool (mayF a b)) ∧ Below w.heap.size w w' := by
  by_cases h1 : 0 ≤ a <;> by_cases h2 : b ≤ 1048576 <;> by_cases h3 : a < b <;> by_cases h4 : a = 0
  all_goals first | (exfalso; omega; done) | skip
  all_goals
    have K1 := Lib.hid h1
    have K2 := Lib.hid h2
    have K3 := Lib.hid h3
    go_enter Try.func23, Try.ntmps23
    go_wp2
    go_ret
    refine ⟨ret_bool ?_, (Below.refl _ _).alloc (Nat.le_refl _) _⟩
    have k1 := K1.out
    have k2 := K2.out
    have k3 := K3.out
    clear K1 K2 K3
    rw [Bool.eq_iff_iff]
    simp [mayF]
    try omega

theorem below2 (w : World) (o o' : Obj) : Below w.heap.size w ((w.alloc o).alloc o') := ((Below.refl _ w).alloc (Nat.le_refl _) o).alloc ((Below.refl _ w).alloc (Nat.le_refl _) o).size o'

/-- Less: by the end, then by the beginning. -/
def lessF (a b c d : Int) : Bool := decide (b < d ∨ (b = d ∧ a < c))
theorem less_any (a b c d : Int) (w : World) :
    Calls Try.prog 43 #[pairV a b, pairV c d] w fun e w' => e = .returned (.bool (lessF a b c d)) ∧ Below w.heap.size w w' := by
  by_cases h1 : b < d <;> by_cases h2 : b = d
  all_goals first | (exfalso; omega; done) | skip
  all_goals
    have K1 := Lib.hid h1
    have K2 := Lib.hid h2
    go_enter Try.func43, Try.ntmps43
    go_wp2
    go_ret
    refine ⟨ret_bool ?_, below2 _ _ _⟩
    have k1 := K1.out
    have k2 := K2.out
    clear K1 K2
    rw [Bool.eq_iff_iff]
    simp [lessF]
    try omega
/-- The pair lies in a block of its own. -/
def PairAt (w : World) (g : Nat) (a b : Int) : Prop := Sits w g 57 #[.int .i64 a, .int .i64 b]
theorem PairAt.fst {w : World} {g : Nat} {a b : Int} (h : PairAt w g a b) : w.cell? ⟨g, 0, none⟩ = some (.int .i64 a) := Sits.cell h 0
theorem PairAt.snd {w : World} {g : Nat} {a b : Int} (h : PairAt w g a b) : w.cell? ⟨g, 1, none⟩ = some (.int .i64 b) := Sits.cell h 1
theorem PairAt.below {w w' : World} {g : Nat} {a b : Int} (h : PairAt w g a b) (hb : Below w.heap.size w w') : PairAt w' g a b := Sits.below h hb h.lt

theorem apart_val (a b c d : Int) : decide ((if d < b then d else b) ≤ if c > a then c else a) = apartF a b c d := by
  unfold apartF
  rw [Bool.eq_iff_iff]
  simp
  split <;> split <;> omega
theorem rapart_any {a b c d : Int} (hp : mayF a b = true) (hq : mayF c d = true) (w : World) :
    Calls Try.prog 35 #[pairV a b, pairV c d] w fun e w' => e = .returned (.bool (apartF a b c d)) ∧ Below w.heap.size w w' := by
  have AV := Lib.hid (apart_val a b c d)
  have HB := Lib.hid (below2 w (.cells #[.int .i64 a, .int .i64 b] 57) (.cells #[.int .i64 c, .int .i64 d] 57))
  have HP : Hid (PairAt ((w.alloc (.cells #[.int .i64 a, .int .i64 b] 57)).alloc (.cells #[.int .i64 c, .int .i64 d] 57)) w.heap.size a b) := Lib.hid ((Sits.new w _ _).alloc _)
  have HQ : Hid (PairAt ((w.alloc (.cells #[.int .i64 a, .int .i64 b] 57)).alloc (.cells #[.int .i64 c, .int .i64 d] 57)) (w.heap.size + 1) c d) := Lib.hid (Sits.made (by simp) _ _)
  go_enter Try.func35, Try.ntmps35
  go_wp2_with (go_at_call 43)
  generalize ((w.alloc (Obj.cells #[.int .i64 a, .int .i64 b] 57)).alloc (.cells #[.int .i64 c, .int .i64 d] 57)) = w0 at HB HP HQ ⊢
  go_at_call 23
  refine (rmay_any _ _ _).mono ?_
  rintro e w1 ⟨rfl, hb1⟩
  have HB1 := Lib.hid (HB.out.trans (hb1.mono HB.out.size))
  have HP1 := Lib.hid (HP.out.below hb1)
  have HQ1 := Lib.hid (HQ.out.below hb1)
  clear hb1 HB HP HQ
  have c0 := HP1.out.fst
  have c1 := HP1.out.snd
  have c2 := HQ1.out.fst
  have c3 := HQ1.out.snd
  go_wp2_with (go_at_call 43)
  go_at_call 23
  refine (rmay_any _ _ _).mono ?_
  rintro e w2 ⟨rfl, hb2⟩
  clear c0 c1 c2 c3
  have HB2 := Lib.hid (HB1.out.trans (hb2.mono HB1.out.size))
  have HP2 := Lib.hid (HP1.out.below hb2)
  have HQ2 := Lib.hid (HQ1.out.below hb2)
  clear hb2 HB1 HP1 HQ1
  have c0 := HP2.out.fst
  have c1 := HP2.out.snd
  have c2 := HQ2.out.fst
  have c3 := HQ2.out.snd
  go_wp2_with (go_at_call 43)
  go_quiet (fail)
  go_wp2
  all_goals
    have HA : Hid (b < d ∨ d < b ∨ b = d) := Lib.hid (by omega)
    go_ret
    refine ⟨ret_bool ?_, below_drewN HB2.out _⟩
    unfold apartF
    congr 1
    simp only [eq_iff_iff]
    omega
end Go.Proofs.Ytgkgpehjedmejaa.Spn
