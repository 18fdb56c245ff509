/- Layer 3 (expr): the stack of numbers, and what an expression comes to. -/
import Derived.Test.YtlfdjlpkopmhhaaDoorExprH
import Derived.Test.YtlfdjlpkopmhhaaDoorExprG
import Derived.Deep.RegionWith
namespace Go.Proofs.YtlfdjlpkopmhhaaDoor.Expr
open Go.RowKit Go.Proofs.YtlfdjlpkopmhhaaDoor.Mem Go.Lib

/-- What was below B is as it was; and so are all blocks but those of some types. -/
structure Fr (B : Nat) (ts : List TypeId) (w w' : World) : Prop where
  low : Below B w w'
  by_ : ∀ t, t ∉ ts → Stable t w w'
section
variable {B : Nat} {ts us : List TypeId} {w w' w'' : World}
theorem Fr.refl (B : Nat) (ts : List TypeId) (w : World) : Fr B ts w w := ⟨Below.refl _ _, fun _ _ => Stable.refl _ _⟩
theorem Fr.trans (h : Fr B ts w w') (k : Fr B ts w' w'') : Fr B ts w w'' := ⟨h.low.trans k.low, fun t ht => (h.by_ t ht).trans (k.by_ t ht)⟩
theorem Fr.wider (h : Fr B ts w w') (hu : ∀ t, t ∈ ts → t ∈ us) : Fr B us w w' := ⟨h.low, fun t ht => h.by_ t (fun h' => ht (hu t h'))⟩
theorem Fr.below (h : Below w.heap.size w w') (hB : B ≤ w.heap.size) : Fr B ts w w' := ⟨h.mono hB, fun _ _ => Stable.below h⟩
theorem Fr.drewn (B : Nat) (ts : List TypeId) (w : World) : Fr B ts w w.drew := ⟨(Below.refl _ _).drew, fun _ _ _ _ hs => hs.drew⟩
theorem Fr.size (h : Fr B ts w w') : w.heap.size ≤ w'.heap.size := h.low.size
end
theorem own_stable {w w' : World} {base : Nat} {e : TypeId} {size n : Nat} {v : Value} {xs : List Value} (h : w.ownsRow base e size v n xs) (hs : Stable e w w') : w'.ownsRow base e size v n xs := by
  refine ⟨h.1, ?_⟩
  rcases h.2 with h2 | ⟨g, cap, cur, rfl, hb, hh, r⟩
  · exact .inl h2
  · exact .inr ⟨g, cap, cur, rfl, hb, hs g cur hh, r⟩
theorem own_far {w : World} {base : Nat} {e t : TypeId} {size n g : Nat} {v : Value} {xs : List Value} {cs : Array Value} (h : w.ownsRow base e size v n xs) (hg : Sits w g t cs) (hne : e ≠ t) : v.ownBlock ≠ some g := by
  rcases h.2 with ⟨rfl, _⟩ | ⟨g', cap, cur, rfl, _, hh, _⟩
  · simp [Value.ownBlock]
  · intro he
    have : g' = g := by simpa [Value.ownBlock] using he
    subst this
    exact Sits.differ (t := e) hh hg hne rfl
theorem own_slice {w : World} {base : Nat} {e : TypeId} {size n : Nat} {v : Value} {xs : List Value} (h : w.ownsRow base e size v n xs) : ∃ p cap, v = .slice p n cap := by
  rcases h.2 with ⟨rfl, rfl⟩ | ⟨g, cap, cur, rfl, _⟩
  · exact ⟨_, _, rfl⟩
  · exact ⟨_, _, rfl⟩
/-- A row whose last element is left off. -/
theorem own_last {w : World} {base : Nat} {e : TypeId} {size n : Nat} {v : Value} {xs ys : List Value} (h : w.ownsRow base e size v (n + 1) (xs ++ ys)) (hx : xs.length = n * size) :
    ∃ g cap, v = .slice (some ⟨g, 0, none⟩) (n + 1) cap ∧ n + 1 ≤ cap ∧ cap ≤ maxLen ∧ g < w.heap.size ∧ (∀ j u, ys[j]? = some u → w.cell? ⟨g, n * size + j, none⟩ = some u) ∧ w.ownsRow base e size (.slice (some ⟨g, 0, none⟩) n cap) n xs := by
  have h' := h
  rcases h.2 with ⟨_, h0⟩ | ⟨g, cap, cur, rfl, hb, hh, hc, hm, hcs, ht⟩
  · omega
  · refine ⟨g, cap, rfl, hc, hm, lt_of_block hh, fun j u hu => ?_, hx, .inr ⟨g, cap, cur, rfl, hb, hh, by omega, hm, hcs, ?_⟩⟩
    · have := h'.cells (g := g) rfl (n * size + j) u (by rw [List.getElem?_append_right (by omega), hx]; rw [Nat.add_sub_cancel_left]; exact hu)
      rwa [Addr.add_lit, Nat.zero_add] at this
    · have e1 : (cur.toList.take ((n + 1) * size)).take (n * size) = cur.toList.take (n * size) := by
        rw [List.take_take, Nat.min_eq_left (Nat.mul_le_mul_right _ (Nat.le_succ n))]
      rw [← e1, ht, ← hx, List.take_left']
      rfl
/-- Growing a row of type e changes no block of another type. -/
theorem grown_stable {w w' : World} {base : Nat} {e t : TypeId} {size n : Nat} {v : Value} {xs : List Value} (h : w.ownsRow base e size v n xs) (hg : w.grownBy w' v.ownBlock) (hne : e ≠ t) : Stable t w w' :=
  fun _ _ hs => hs.grown hg (own_far h hs hne)

def VStk (B g : Nat) (w : World) (st : List Int) : Prop := ∃ v, Sits w g 67 #[v] ∧ B ≤ g ∧ w.ownsRow B 22 1 v st.length (st.map (Value.int .u64))
def vts : List TypeId := [67, 22]
theorem VStk.keep {B C g : Nat} {w w' : World} {st : List Int} {ts : List TypeId} (h : VStk B g w st) (hf : Fr C ts w w') (h1 : 67 ∉ ts) (h2 : 22 ∉ ts) : VStk B g w' st := by
  obtain ⟨v, hs, hB, ho⟩ := h
  exact ⟨v, hf.by_ _ h1 _ _ hs, hB, own_stable ho (hf.by_ _ h2)⟩
theorem VStk.drew {B g : Nat} {w : World} {st : List Int} (h : VStk B g w st) : VStk B g w.drew st := h.keep (Fr.drewn B [] w) (by simp) (by simp)
theorem u64Info : (Tryd.prog.info? 22).map (fun i => (i.zero, i.size, i.bytes)) = some (some (.int .u64 0), 1, 8) := by kernel_rfl

def Pushed (B g : Nat) (st : List Int) (w : World) (e : Ending) (w' : World) : Prop := e = .returned (.tuple #[]) ∧ VStk B g w' st ∧ Fr B vts w w'
set_option maxRecDepth 100000 in
set_option maxHeartbeats 1000000 in
theorem push_u64 (B g : Nat) (st : List Int) (x : Int) (w : World) (hB : B ≤ w.heap.size) (hl : st.length ≤ 1000) (h : VStk B g w st) :
    Calls Tryd.prog 40 #[.pointer (some ⟨g, 0, none⟩), .int .u64 x] w (Pushed B g (st ++ [x]) w) := by
  obtain ⟨i0, hi, hz0, hz1, hz2⟩ := info_parts u64Info
  obtain ⟨v, hs, hBg, ho⟩ := h
  have c0 : w.cell? ⟨g, 0, none⟩ = some v := hs.cell 0
  have hlt := hs.lt
  have HS := Lib.hid hs
  clear hs
  go_enter Tryd.func40, Tryd.ntmps40
  go_wp2_with (at_builtin; refine wpList_append_own _ rfl (.tmp 8) (.tmp 10) 31 rfl B 22 i0 _ 1 8 Tryd.underlying31 hi hz0 hz1 hz2 rfl (by decide) v st.length (st.map (Value.int .u64)) rfl (ho.alloc _) ⟨w.heap.size, 0, none⟩ 1 1 [.int .u64 x] rfl rfl ?c1 ?c2 ?c3 ?c4 ?c5 ?_)
  case c1 =>
    intro j u hu
    have := (Sits.new w 22 #[.int .u64 x]).cell j
    rw [Addr.add_lit, Nat.zero_add, this]
    simpa using hu
  case c2 => intro u hu; simp only [List.mem_singleton] at hu; subst hu; rfl
  case c3 => unfold maxLen; omega
  case c4 => omega
  case c5 => simp; omega
  intro v' w1 own' grow _
  have S1 := (HS.out.alloc (.cells #[.int .u64 x] 22)).grown grow (own_far ho HS.out (by decide))
  have c1 : w1.cell? ⟨g, 0, none⟩ = some v := S1.cell 0
  have f1 := S1.free 0
  have hlt1 := S1.lt
  have S2 := Lib.hid (S1.put 0 v')
  have HS1 := Lib.hid S1
  have HF : Hid (Fr B vts w w1) := Lib.hid ⟨((Below.refl B w).alloc hB _).grown grow (by simp; omega) (fun k hk => (ho.lt k hk).1), fun t ht => (Stable.below ((Below.refl _ w).alloc (Nat.le_refl _) _)).trans (grown_stable (ho.alloc _) grow (fun e => ht (by rw [← e]; decide)))⟩
  have HO := Lib.hid own'
  obtain ⟨p, cap, rfl⟩ := own_slice own'
  clear own' grow S1 c0 hlt
  go_wp2_with fail
  go_end0
  exact ⟨rfl, ⟨_, S2.out, hBg, by rw [List.length_append, List.map_append]; exact own_stable HO.out (Stable.put HS1.out (by decide) 0 _)⟩, HF.out.trans ⟨(Below.refl _ _).setCell hBg _, fun t ht => Stable.put HS1.out (fun e => ht (by rw [e]; decide)) 0 _⟩⟩
def Popped (B g : Nat) (x : Int) (st : List Int) (w : World) (e : Ending) (w' : World) : Prop := e = .returned (.int .u64 x) ∧ VStk B g w' st ∧ Fr B vts w w'
theorem pop_none (B g : Nat) (w : World) (h : VStk B g w []) : Calls Tryd.prog 42 #[.pointer (some ⟨g, 0, none⟩)] w (Popped B g 0 [] w) := by
  obtain ⟨v, hs, hBg, ho⟩ := h
  have HV := Lib.hid (show VStk B g w [] from ⟨v, hs, hBg, ho⟩)
  obtain ⟨p, cap, rfl⟩ := own_slice ho
  have c0 : w.cell? ⟨g, 0, none⟩ = some (.slice p 0 cap) := hs.cell 0
  have hlt := hs.lt
  clear hs ho
  go_enter Tryd.func42, Tryd.ntmps42
  go_wp2_with fail
  go_ret
  exact ⟨rfl, HV.out, Fr.refl _ _ _⟩
set_option maxRecDepth 100000 in
theorem pop_u64 (B g : Nat) (st : List Int) (x : Int) (w : World) (hl : st.length ≤ 1000) (h : VStk B g w (st ++ [x])) :
    Calls Tryd.prog 42 #[.pointer (some ⟨g, 0, none⟩)] w (Popped B g x st w) := by
  obtain ⟨v, hs, hBg, ho⟩ := h
  rw [List.length_append, List.map_append] at ho
  obtain ⟨g1, cap, rfl, hc1, hc2, hlt1, hcell, ho2⟩ := own_last (ys := [Value.int .u64 x]) ho (by simp)
  have c0 : w.cell? ⟨g, 0, none⟩ = some (.slice (some ⟨g1, 0, none⟩) (st.length + 1) cap) := hs.cell 0
  have f0 := hs.free 0
  have hlt := hs.lt
  have cx : w.cell? ⟨g1, st.length, none⟩ = some (.int .u64 x) := by have := hcell 0 _ rfl; simpa using this
  have hne : g1 ≠ g := fun e => own_far ho hs (by decide) (by rw [e]; rfl)
  have HS := Lib.hid hs
  have HO := Lib.hid ho2
  have S2 := Lib.hid (hs.put 0 (.slice (some ⟨g1, 0, none⟩) st.length cap))
  have i1 : (0 : Int) ≤ (st.length : Int) := by omega
  have i2 : (st.length : Int) ≤ 1000 := by omega
  have i3 : (st.length : Int) + 1 ≤ cap := by omega
  unfold maxLen at hc2
  clear hs ho ho2 hcell
  go_enter Tryd.func42, Tryd.ntmps42
  go_wp2_with fail
  go_region
  all_goals
    go_wp2_with fail
    go_ret
    exact ⟨rfl, ⟨_, S2.out.drew, hBg, own_stable HO.out (fun g' cs hs => (Stable.put HS.out (t := 22) (by decide) 0 _ g' cs hs).drew)⟩, ⟨((Below.refl _ _).setCell hBg _).drew, fun t ht g' cs hs => (Stable.put HS.out (fun e => ht (by rw [e]; decide)) 0 _ g' cs hs).drew⟩⟩

set_option maxRecDepth 100000 in
set_option maxHeartbeats 1000000 in
theorem join_one (B g op : Nat) (st : List Int) (a : Int) (w : World) (hB : B ≤ w.heap.size) (hl : st.length ≤ 1000) (hop : sides op = 1) (h : VStk B g w (st ++ [a])) :
    Calls Tryd.prog 41 #[.pointer (some ⟨g, 0, none⟩), .int .u8 (op : Nat)] w (Pushed B g (st ++ [oneI op a]) w) := by
  have HO := Lib.hid hop
  have HP := Lib.hid (fun W (hf : Fr B vts w W) (hv : VStk B g W (st ++ [a])) => pop_u64 B g st a W hl hv)
  have HU := Lib.hid (fun W (hf : Fr B vts w W) (hv : VStk B g W st) => push_u64 B g st (oneI op a) W (Nat.le_trans hB hf.size) hl hv)
  have HV := Lib.hid h
  obtain ⟨v, hs, _⟩ := h
  have hlt := hs.lt
  clear hop hs
  go_enter Tryd.func41, Tryd.ntmps41
  go_wp2_with (go_at_call 12; refine (sides_nat _ _).mono ?_; rw [HO.out]; rintro e w' ⟨rfl, rfl⟩)
  go_region_with (first
    | (go_at_call 42; refine (HP.out _ (Fr.drewn _ _ _) HV.out.drew).mono ?_; rintro e w1 ⟨rfl, hv1, hf1⟩; have HV1 := Lib.hid hv1; have HF1 := Lib.hid ((Fr.drewn _ _ _).trans hf1); clear hv1 hf1)
    | (go_at_call 10; refine (Num.one_any op a _).mono ?_; rintro e w' ⟨rfl, rfl⟩)
    | (go_at_call 40; refine (HU.out _ HF1.out HV1.out).mono ?_; rintro e w2 ⟨rfl, hv2, hf2⟩; have HV2 := Lib.hid hv2; have HF2 := Lib.hid (HF1.out.trans hf2); clear hv2 hf2))
  all_goals
    go_wp2_with fail
    go_end0
    exact ⟨rfl, HV2.out, HF2.out⟩

set_option maxRecDepth 100000 in
set_option maxHeartbeats 1000000 in
theorem join_two (B g op : Nat) (st : List Int) (a b : Int) (w : World) (hB : B ≤ w.heap.size) (hl : st.length ≤ 900) (hop : sides op = 2) (ha : U64 a) (hb : U64 b) (h : VStk B g w (st ++ [a] ++ [b])) :
    Calls Tryd.prog 41 #[.pointer (some ⟨g, 0, none⟩), .int .u8 (op : Nat)] w (Pushed B g (st ++ [twoI op a b]) w) := by
  have HO := Lib.hid hop
  have HP1 := Lib.hid (fun W (hv : VStk B g W (st ++ [a] ++ [b])) => pop_u64 B g (st ++ [a]) b W (by simp; omega) hv)
  have HP2 := Lib.hid (fun W (hv : VStk B g W (st ++ [a])) => pop_u64 B g st a W (by omega) hv)
  have HU := Lib.hid (fun W (hf : Fr B vts w W) (hv : VStk B g W st) => push_u64 B g st (twoI op a b) W (Nat.le_trans hB hf.size) (by omega) hv)
  have HD := Lib.hid (fun W => Num.do_any op a b ha.1 ha.2 hb.1 W)
  have HV := Lib.hid h
  obtain ⟨v, hs, _⟩ := h
  have hlt := hs.lt
  clear hop hs ha hb
  go_enter Tryd.func41, Tryd.ntmps41
  go_wp2_with (go_at_call 12; refine (sides_nat _ _).mono ?_; rw [HO.out]; rintro e w' ⟨rfl, rfl⟩)
  go_region_with (first
    | (go_at_call 42; refine (HP1.out _ HV.out.drew).mono ?_; rintro e w1 ⟨rfl, hv1, hf1⟩; have HV1 := Lib.hid hv1; have HF1 := Lib.hid ((Fr.drewn B vts w).trans hf1); clear hv1 hf1 HV)
    | (go_at_call 42; refine (HP2.out _ HV1.out).mono ?_; rintro e w2 ⟨rfl, hv2, hf2⟩; have HV2 := Lib.hid hv2; have HF2 := Lib.hid (HF1.out.trans hf2); clear hv2 hf2 HV1 HF1))
  all_goals
    have hlt2 : g < w2.heap.size := Nat.lt_of_lt_of_le hlt HF2.out.size
    clear hlt HP1 HP2
    go_wp2_with fail
    go_region_with (first
      | (go_at_call 8; refine (HD.out _).mono ?_; rintro e w' ⟨rfl, rfl⟩)
      | (go_at_call 40; refine (HU.out _ (HF2.out.trans (Fr.drewn _ _ _)) HV2.out.drew).mono ?_; rintro e w3 ⟨rfl, hv3, hf3⟩; have HV3 := Lib.hid hv3; have HF3 := Lib.hid ((HF2.out.trans (Fr.drewn _ _ _)).trans hf3); clear hv3 hf3))
    all_goals
      go_wp2_with fail
      go_end0
      exact ⟨rfl, HV3.out, HF3.out⟩
end Go.Proofs.YtlfdjlpkopmhhaaDoor.Expr
