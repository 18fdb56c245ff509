/- Proved here: troth/trothlaw06.CheckDeep answers true for every depth and kind (blocks that are too deep are too much; what a kind has not may not be there), and leaves its arguments alone. Condition: the tables troth/check.kinds, troth/prog.modeTexts and troth/num.texts hold what their packages' own initialisers lay, which the card ties to those texts. -/
import Derived.Test.YtbkdappgmcebaaaDoorKC6
import Derived.Test.YtbkdappgmcebaaaDoorKC7
import Derived.Deep.DeepCutAuto
import Derived.Test.YtbkdappgmcebaaaDoorKC8
import Derived.Test.YtbkdappgmcebaaaDoorKC5
section
namespace Go.Proofs.YtbkdappgmcebaaaDoor.Chk
open Go.RowKit Go.Proofs.YtbkdappgmcebaaaDoor.Mem Go.Proofs.YtbkdappgmcebaaaDoor.Expr Go.Proofs.YtbkdappgmcebaaaDoor.Prog Go.Proofs.YtbkdappgmcebaaaDoor.Prs Go.Lib
def AllK (w:World):Prop:=Prog.All w/\KindAt w
theorem AllK.below {w w':World} (h:AllK w) (hb:Below w.heap.size w w'):AllK w':=⟨h.1.below hb,h.2.below hb⟩
def ck1B:ByteArray:=⟨#[105,110,105,116,32,120,32,61,32,51,59,32,116,104,114,101,97,100,32,123,32,115,116,111,114,101,40,121,44,32,49,44,32,114,108,120,41,59,32,125,32,101,120,105,115,116,115,32,120,59]⟩
def ck2B:ByteArray:=⟨#[116,104,114,101,97,100,32,123,32,125,32,101,120,105,115,116,115,32,49,58,114,48,59]⟩
theorem ck1_list:ck1B.data.toList=ctext1:=by kernel_rfl
theorem ck2_list:ck2B.data.toList=ctext2:=by kernel_rfl
theorem csmall1:ctest1.small:=read_small ⟨cprints1,by decide,by
  intro b hb
  obtain rfl:b=_:=by simpa [ctest1] using hb
  decide⟩
theorem csmall2:ctest2.small:=read_small ⟨cprints2,by decide,by
  intro b hb
  obtain rfl:b=Blk.nil:=by simpa [ctest2] using hb
  decide⟩
set_option maxRecDepth 100000 in
theorem wakes_any (w:World) (hX:AllK w):Calls Tryd.prog 5 #[] w fun e w'=>Made (.returned (.bool true)) w e w':=by
  have HP1:=Lib.hid (fun W (h:Below w.heap.size w W)=>(show Calls Tryd.prog _ #[.string ⟨#[105,110,105,116,32,120,32,61,32,51,59,32,116,104,114,101,97,100,32,123,32,115,116,111,114,101,40,121,44,32,49,44,32,114,108,120,41,59,32,125,32,101,120,105,115,116,115,32,120,59]⟩] W fun e W'=>∃ pi ci pt ct pa,e = .returned (.tuple #[.agg #[.slice pi 1 ci,.slice pt 1 ct,.bool false,.pointer pa],.agg #[.int .i64 0,.int .i64 0],.int .i64 0])/\TestV W' ctest1 (.slice pi 1 ci) (.slice pt 1 ct) (.pointer pa)/\Below w.heap.size w W' /\ W.heap.size<=W'.heap.size from
    (parse_any ck1B W (by decide) (hX.1.below h)).mono fun e W' hm=>by
      rw [ck1_list,call1] at hm
      obtain ⟨hb,vi,vt,pa,he,hv⟩:=hm
      obtain ⟨pi,ci,rfl⟩:=hv.init.len
      obtain ⟨pt,ct,rfl⟩:=hv.threads.len
      exact ⟨pi,ci,pt,ct,pa,he,hv,h.trans (hb.mono h.size),hb.size⟩))
  have HP2:=Lib.hid (fun W (h:Below w.heap.size w W)=>(show Calls Tryd.prog _ #[.string ⟨#[116,104,114,101,97,100,32,123,32,125,32,101,120,105,115,116,115,32,49,58,114,48,59]⟩] W fun e W'=>∃ pi ci pt ct pa,e = .returned (.tuple #[.agg #[.slice pi 0 ci,.slice pt 1 ct,.bool false,.pointer pa],.agg #[.int .i64 0,.int .i64 0],.int .i64 0])/\TestV W' ctest2 (.slice pi 0 ci) (.slice pt 1 ct) (.pointer pa)/\Below W.heap.size W W' from
    (parse_any ck2B W (by decide) (hX.1.below h)).mono fun e W' hm=>by
      rw [ck2_list,call2] at hm
      obtain ⟨hb,vi,vt,pa,he,hv⟩:=hm
      obtain ⟨pi,ci,rfl⟩:=hv.init.len
      obtain ⟨pt,ct,rfl⟩:=hv.threads.len
      exact ⟨pi,ci,pt,ct,pa,he,hv,hb⟩))
  have HC1:=Lib.hid (fun pi ci pt ct pa W (h:Below w.heap.size w W) (hv:TestV W ctest1 (.slice pi 1 ci) (.slice pt 1 ct) (.pointer pa))=>(show Calls Tryd.prog _ #[.agg #[.slice pi 1 ci,.slice pt 1 ct,.bool false,.pointer pa]] W fun e W'=>e = .returned (.tuple #[.string ⟨#[120,121]⟩,.int .i64 0])/\Below W.heap.size W W' from
    (check_any ctest1 csmall1 _ _ _ W (hX.2.below h) hv).mono fun e W' hm=>by
      rw [ccheck1.1,ccheck1.2] at hm
      exact hm))
  have HC2:=Lib.hid (fun pi ci pt ct pa W (h:Below w.heap.size w W) (hv:TestV W ctest2 (.slice pi 0 ci) (.slice pt 1 ct) (.pointer pa))=>(show Calls Tryd.prog _ #[.agg #[.slice pi 0 ci,.slice pt 1 ct,.bool false,.pointer pa]] W fun e W'=>∃ s,e = .returned (.tuple #[.string s,.int .i64 7])/\Below W.heap.size W W' from
    (check_any ctest2 csmall2 _ _ _ W (hX.2.below h) hv).mono fun e W' hm=>by
      rw [ccheck2] at hm
      exact ⟨_,hm⟩))
  have HST:=Lib.hid (fun pi ci pt ct pa W (hv:TestV W ctest1 (.slice pi 1 ci) (.slice pt 1 ct) (.pointer pa))=>(show Calls Tryd.prog _ #[.agg #[.slice pi 1 ci,.slice pt 1 ct,.bool false,.pointer pa],.string ⟨#[120,121]⟩] W fun e W'=>∃ g o c,e = .returned (.slice (some ⟨g,o,none⟩) 2 c)/\W'.cell? ⟨g,o,none⟩=some (.int .u64 3)/\W'.cell? ⟨g,o+1,none⟩=some (.int .u64 0)/\Below W.heap.size W W' from
    (start_any ctest1 csmall1 [120,121] (by decide) _ _ _ W hv).mono fun e W' ⟨v,he,hr,hb⟩=>by
      rw [cstart1] at hr
      rcases hr with ⟨h,_⟩ | ⟨g,o,c,rfl,_,hc⟩
      · cases h
      · exact ⟨g,o,c,he,hc 0 3 rfl,hc 1 0 rfl,hb⟩))
  have HB:=Lib.hid (Below.refl w.heap.size w)
  clear hX
  go_enter Tryd.func5,Tryd.ntmps5
  go_wp2_with fail
  refine (HP1.out _ HB.out).mono ?_
  rintro e w1 ⟨pi,ci,pt,ct,pa,rfl,hv,hb,hz⟩
  have HV:=Lib.hid hv
  have HB1:=Lib.hid hb
  clear hv hb hz HP1
  have hlow:Below w1.heap.size w1 ((w1.alloc (.cells #[.slice pi 1 ci,.slice pt 1 ct,.bool false,.pointer pa] 35)).alloc (.cells #[.int .i64 0,.int .i64 0] 49)):=((Below.refl _ _).alloc (Nat.le_refl _) _).alloc (by simp) _
  have HS2:=Lib.hid (show Sits ((w1.alloc (.cells #[.slice pi 1 ci,.slice pt 1 ct,.bool false,.pointer pa] 35)).alloc (.cells #[.int .i64 0,.int .i64 0] 49)) w1.heap.size 35 #[.slice pi 1 ci,.slice pt 1 ct,.bool false,.pointer pa] from (Sits.new _ _ _).alloc _)
  have HV2:=Lib.hid (HV.out.below hlow)
  have HB2:=Lib.hid (HB1.out.trans (hlow.mono HB1.out.size))
  clear hlow HV
  go_wp2_with fail
  generalize (w1.alloc (.cells #[.slice pi 1 ci,.slice pt 1 ct,.bool false,.pointer pa] 35)).alloc (.cells #[.int .i64 0,.int .i64 0] 49)=w2 at HS2 HV2 HB2 ⊢
  generalize w1.heap.size=g1 at HS2 ⊢
  refine (HP2.out _ HB2.out).mono ?_
  rintro e w3 ⟨pi2,ci2,pt2,ct2,pa2,rfl,hv,hb⟩
  have HS3:=Lib.hid (HS2.out.below hb HS2.out.lt)
  have HV3:=Lib.hid (HV2.out.below hb)
  have HB3:=Lib.hid (HB2.out.trans (hb.mono HB2.out.size))
  have hlow:Below w3.heap.size w3 ((w3.alloc (.cells #[.slice pi2 0 ci2,.slice pt2 1 ct2,.bool false,.pointer pa2] 35)).alloc (.cells #[.int .i64 0,.int .i64 0] 49)):=((Below.refl _ _).alloc (Nat.le_refl _) _).alloc (by simp) _
  have HS4:=Lib.hid (HS3.out.below hlow HS3.out.lt)
  have HV4:=Lib.hid (HV3.out.below hlow)
  have HU4:=Lib.hid (hv.below hlow)
  have HB4:=Lib.hid (HB3.out.trans (hlow.mono HB3.out.size))
  have HT4:=Lib.hid (show Sits ((w3.alloc (.cells #[.slice pi2 0 ci2,.slice pt2 1 ct2,.bool false,.pointer pa2] 35)).alloc (.cells #[.int .i64 0,.int .i64 0] 49)) w3.heap.size 35 #[.slice pi2 0 ci2,.slice pt2 1 ct2,.bool false,.pointer pa2] from (Sits.new _ _ _).alloc _)
  have a0:=HS4.out.cell 0
  have a1:=HS4.out.cell 1
  have a2:=HS4.out.cell 2
  have a3:=HS4.out.cell 3
  have la:=HS4.out.lt
  clear hb hv hlow HP2 HS2 HS3 HV2 HV3
  go_wp2_with fail
  generalize (w3.alloc (.cells #[.slice pi2 0 ci2,.slice pt2 1 ct2,.bool false,.pointer pa2] 35)).alloc (.cells #[.int .i64 0,.int .i64 0] 49)=w4 at HS4 HV4 HU4 HB4 HT4 a0 a1 a2 a3 la ⊢
  generalize w3.heap.size=g3 at HT4 ⊢
  refine (HC1.out pi ci pt ct pa _ HB4.out HV4.out).mono ?_
  rintro e w5 ⟨rfl,hb⟩
  have HS5:=Lib.hid (HS4.out.below hb HS4.out.lt)
  have HT5:=Lib.hid (HT4.out.below hb HT4.out.lt)
  have HV5:=Lib.hid (HV4.out.below hb)
  have HU5:=Lib.hid (HU4.out.below hb)
  have HB5:=Lib.hid (HB4.out.trans (hb.mono HB4.out.size))
  clear hb a0 a1 a2 a3 la HS4 HT4 HV4 HU4 HB4
  have a0:=HT5.out.cell 0
  have a1:=HT5.out.cell 1
  have a2:=HT5.out.cell 2
  have a3:=HT5.out.cell 3
  have la:=HT5.out.lt
  go_wp2_with fail
  refine (HC2.out pi2 ci2 pt2 ct2 pa2 _ HB5.out HU5.out).mono ?_
  rintro e w6 ⟨s2,rfl,hb⟩
  have HS6:=Lib.hid (HS5.out.below hb HS5.out.lt)
  have HV6:=Lib.hid (HV5.out.below hb)
  have HB6:=Lib.hid (HB5.out.trans (hb.mono HB5.out.size))
  clear hb a0 a1 a2 a3 la HS5 HT5 HV5 HU5 HB5
  have a0:=HS6.out.cell 0
  have a1:=HS6.out.cell 1
  have a2:=HS6.out.cell 2
  have a3:=HS6.out.cell 3
  have la:=HS6.out.lt
  go_wp2_with fail
  refine (HST.out pi ci pt ct pa _ HV6.out).mono ?_
  rintro e w7 ⟨gv,ov,cv,rfl,v0,v1,hb⟩
  have HB7:=Lib.hid (HB6.out.trans (hb.mono HB6.out.size))
  have lv:=World.block_lt_of_cell? _ _ v0
  clear hb a0 a1 a2 a3 la HS6 HV6 HB6
  go_wp2_with fail
  go_ret
  exact ⟨rfl,HB7.out⟩
end Go.Proofs.YtbkdappgmcebaaaDoor.Chk
end
section
namespace Go.Proofs.YtbkdappgmcebaaaDoor.Chk
open Go.RowKit Go.Proofs.YtbkdappgmcebaaaDoor.Mem Go.Proofs.YtbkdappgmcebaaaDoor.Expr Go.Proofs.YtbkdappgmcebaaaDoor.Prog Go.Lib
abbrev oneE:Option Ex:=some (.num 1)
def nestB:Nat->Blk
  | 0 => .nil
  | d+1 => .cons ⟨9,0,0,0,oneE,none⟩ (nestB d) .nil .nil
def testB (b:Blk) (a:Option Ex):Ts:=⟨[],[b],false,a⟩
theorem deep_check {d:Nat} (h:d<20):checkE (testB (nestB d) oneE)=if 7<d then 4 else 0:=by
  obtain rfl | rfl | rfl | rfl | rfl | rfl | rfl | rfl | rfl | rfl | rfl | rfl | rfl | rfl | rfl | rfl | rfl | rfl | rfl | rfl:d=0 \/ d=1 \/ d=2 \/ d=3 \/ d=4 \/ d=5 \/ d=6 \/ d=7 \/ d=8 \/ d=9 \/ d=10 \/ d=11 \/ d=12 \/ d=13 \/ d=14 \/ d=15 \/ d=16 \/ d=17 \/ d=18 \/ d=19:=by omega
  all_goals kernel_rfl
theorem fold_false:∀ (b:Blk) (room:Nat),b.fold mayR room false=false:=by
  intro b
  induction b with
  | nil=>intro room;rfl
  | cons m t e r iht ihe ihr =>
    intro room
    cases room with
    | zero=>rfl
    | succ room =>
      have hm:mayR m t.len e.len false=false:=rfl
      simp only [Blk.fold,hm,iht room,ihe room]
      have:(if m.kind=8 then false else if m.kind=9 then false else false)=false:=by split <;> (try split) <;> rfl
      rw [this]
      exact ihr (room+1)
theorem bad_block {m:Mk} {t e:Blk} (h:stMay m t.len e.len=false) (a:Option Ex):checkE (testB (.cons m t e .nil) a)=1:=by
  have hm:mayR m t.len e.len true=false:=by unfold mayR;rw [Bool.true_and,h]
  have:stsMay [.cons m t e .nil] true=false:=by
    show (Blk.cons m t e .nil).fold mayR 8 true=false
    simp only [Blk.fold,hm,fold_false]
    split
    · rfl
    · split <;> rfl
  simp [checkE,testB,this]
abbrev setB:Blk:=.cons ⟨1,0,0,0,oneE,none⟩ .nil .nil .nil
theorem then_bad (k:Nat):stMay ⟨k,0,2,120,oneE,oneE⟩ setB.len Blk.nil.len=false:=by
  by_cases h:10<=k
  · simp [stMay,show ¬ k<=9 by omega]
  · obtain rfl | rfl | rfl | rfl | rfl | rfl | rfl | rfl | rfl | rfl:k=0 \/ k=1 \/ k=2 \/ k=3 \/ k=4 \/ k=5 \/ k=6 \/ k=7 \/ k=8 \/ k=9:=by omega
    all_goals kernel_rfl
theorem else_bad (k:Nat):stMay ⟨k,0,2,120,oneE,oneE⟩ Blk.nil.len setB.len=false:=by
  by_cases h:10<=k
  · simp [stMay,show ¬ k<=9 by omega]
  · obtain rfl | rfl | rfl | rfl | rfl | rfl | rfl | rfl | rfl | rfl:k=0 \/ k=1 \/ k=2 \/ k=3 \/ k=4 \/ k=5 \/ k=6 \/ k=7 \/ k=8 \/ k=9:=by omega
    all_goals kernel_rfl
theorem nobody_bad:checkE (testB .nil none)=1:=by kernel_rfl
theorem one_ok:okO oneE:=⟨by show (1:Nat)<18446744073709551616;decide,by decide⟩
theorem nest_fine:∀ d,(nestB d).fine/\(nestB d).size=d:=by
  intro d
  induction d with
  | zero=>exact ⟨trivial,rfl⟩
  | succ d ih=>exact ⟨⟨one_ok,trivial,by decide,by decide,by decide,by decide,ih.1,trivial,trivial⟩,by simp only [nestB,Blk.size,ih.2]⟩
theorem test_small {b:Blk} {a:Option Ex} (h:b.fine) (hs:b.size<=10000) (ha:okO a):(testB b a).small where
  init:=by simp [testB]
  each:=fun i hi=>by simp [testB] at hi
  threads:=by simp [testB]
  fine:=fun c hc=>by
    obtain rfl:c=b:=by simpa [testB] using hc
    exact ⟨h,hs⟩
  ask:=ha
theorem set_fine:setB.fine:=⟨one_ok,trivial,by decide,by decide,by decide,by decide,trivial,trivial,trivial⟩
theorem stand_nil (W:World):Stand any_ W .nil (.slice none 0 0):=⟨[],.inl ⟨rfl,none,0,rfl⟩,rfl⟩
theorem stand_one {W:World} {g:Nat} {m:Mk} {t e:Blk} {av bv tv ev:Value} (hs:Sits W g 28 #[.int .u8 m.kind,.int .u8 m.reg,.int .u8 m.mode,.int .u8 m.loc,av,bv,tv,ev]) (ha:Tree W (trO m.a) av) (hb:Tree W (trO m.b) bv) (ht:Stand any_ W t tv) (he:Stand any_ W e ev) :
    Stand any_ W (.cons m t e .nil) (.slice (some ⟨g,0,none⟩) 1 1):=by
  obtain ⟨ct,h1,h2⟩:=ht
  obtain ⟨ce,h3,h4⟩:=he
  refine ⟨stCells m av bv tv ev ++ [],.inr ⟨g,0,1,rfl,trivial,by simp [Blk.len],fun j u hu=>?_⟩,⟨av,bv,tv,ev,ct,ce,[],rfl,ha,hb,h1,h2,h3,h4,rfl⟩⟩
  rw [Nat.zero_add,hs.cell j]
  simpa [stCells] using hu
theorem testV_one {W:World} {g:Nat} {b:Blk} {u va:Value} {a:Option Ex} (hs:Sits W g 26 #[u]) (hb:Stand any_ W b u) (ha:Tree W (trO a) va):TestV W (testB b a) (.slice none 0 0) (.slice (some ⟨g,0,none⟩) 1 1) va :=
  ⟨.inl ⟨rfl,none,0,rfl⟩,⟨[u],.inr ⟨g,0,1,rfl,trivial,by simp [testB],fun j x hx=>by
    rw [Nat.zero_add,hs.cell j];simpa using hx⟩,rfl,fun i c x hc hx=>by
      rcases i with _ | i
      · obtain rfl:b=c:=by simpa [testB] using hc
        obtain rfl:u=x:=by simpa using hx
        exact hb
      · simp [testB] at hc⟩,ha⟩
theorem tree_one {W:World} {g:Nat} (h:Sits W g 25 #[.int .u8 0,.int .u8 0,.int .u64 1,.int .u8 0,.int .u8 0,.int .u8 0,.pointer none,.pointer none]):Tree W (trO oneE) (.pointer (some ⟨g,0,none⟩)) :=
  ⟨g,.pointer none,.pointer none,rfl,h,rfl,rfl⟩
theorem tree_none (W:World):Tree W (trO none) (.pointer none):=rfl
abbrev setCells (go:Nat):Array Value:=#[.int .u8 1,.int .u8 0,.int .u8 0,.int .u8 0,.pointer (some ⟨go,0,none⟩),.pointer none,.slice none 0 0,.slice none 0 0]
abbrev xCells (kk go:Nat) (t e:Value):Array Value:=#[.int .u8 kk,.int .u8 0,.int .u8 2,.int .u8 120,.pointer (some ⟨go,0,none⟩),.pointer (some ⟨go,0,none⟩),t,e]
theorem x_test {W:World} {go kk:Nat} {t e:Blk} {tv ev:Value} (hO:Sits W go 25 #[.int .u8 0,.int .u8 0,.int .u64 1,.int .u8 0,.int .u8 0,.int .u8 0,.pointer none,.pointer none]) (ht:Stand any_ W t tv) (he:Stand any_ W e ev) :
    TestV ((W.alloc (.cells (xCells kk go tv ev) 28)).alloc (.cells #[.slice (some ⟨W.heap.size,0,none⟩) 1 1] 26)) (testB (.cons ⟨kk,0,2,120,oneE,oneE⟩ t e .nil) oneE) (.slice none 0 0) (.slice (some ⟨W.heap.size+1,0,none⟩) 1 1) (.pointer (some ⟨go,0,none⟩)):=by
  have h1:Below W.heap.size W (W.alloc (.cells (xCells kk go tv ev) 28)):=(Below.refl _ W).alloc (Nat.le_refl _) _
  have h2:Below (W.alloc (.cells (xCells kk go tv ev) 28)).heap.size (W.alloc (.cells (xCells kk go tv ev) 28)) ((W.alloc (.cells (xCells kk go tv ev) 28)).alloc (.cells #[.slice (some ⟨W.heap.size,0,none⟩) 1 1] 26)):=(Below.refl _ _).alloc (Nat.le_refl _) _
  have hs:Stand any_ (W.alloc (.cells (xCells kk go tv ev) 28)) (.cons ⟨kk,0,2,120,oneE,oneE⟩ t e .nil) (.slice (some ⟨W.heap.size,0,none⟩) 1 1) :=
    stand_one (m:=⟨kk,0,2,120,oneE,oneE⟩) (Sits.new W _ _) ((tree_one hO).below h1) ((tree_one hO).below h1) (ht.below h1) (he.below h1)
  exact testV_one (Sits.made (by simp) _ _) (hs.below h2) (((tree_one hO).below h1).below h2)
theorem x_fine {kk:Nat} {t e:Blk} (hk:kk<256) (ht:t.fine) (he:e.fine):(Blk.cons ⟨kk,0,2,120,oneE,oneE⟩ t e .nil).fine:=⟨one_ok,one_ok,(by decide:(0:Nat)<256),(by decide:(2:Nat)<256),(by decide:(120:Nat)<256),hk,ht,he,trivial⟩
set_option maxRecDepth 100000 in
set_option maxHeartbeats 4000000 in
theorem deep_any (dd kk:Nat) (hd:dd<256) (hk:kk<256) (w:World) (hX:AllK w) :
    Calls Tryd.prog 3 #[.int .u8 (dd:Nat),.int .u8 (kk:Nat)] w fun e w'=>Made (.returned (.bool true)) w e w':=by
  have HWK:=Lib.hid (fun W (h:Below w.heap.size w W)=>wakes_any W (hX.below h))
  have HCK:=Lib.hid (fun (t:Ts) (ht:t.small) vi vt va W (h:Below w.heap.size w W) (hv:TestV W t vi vt va)=>check_any t ht vi vt va W (hX.2.below h) hv)
  have m1:(dd:Int)<256:=by omega
  have m2:(0:Int)<=(dd:Int):=by omega
  have HK:=Lib.hid hk
  obtain ⟨d,hdd⟩:∃ d:Nat,d=dd % 20:=⟨_,rfl⟩
  have hr:(dd:Int) % 20=(d:Int):=by omega
  have HD:=Lib.hid (show d<20 by omega)
  clear hdd
  have HB0:=Lib.hid (show Below w.heap.size w (w.alloc (.cells #[.int .u8 0,.int .u8 0,.int .u64 1,.int .u8 0,.int .u8 0,.int .u8 0,.pointer none,.pointer none] 25)) from (Below.refl _ w).alloc (Nat.le_refl _) _)
  have HO0:=Lib.hid (Sits.new w 25 #[.int .u8 0,.int .u8 0,.int .u64 1,.int .u8 0,.int .u8 0,.int .u8 0,.pointer none,.pointer none])
  clear hX hd hk
  go_enter Tryd.func3,Tryd.ntmps3
  go_wp2_with fail
  rw [hr]
  generalize w.alloc (.cells #[.int .u8 0,.int .u8 0,.int .u64 1,.int .u8 0,.int .u8 0,.int .u8 0,.pointer none,.pointer none] 25)=w1 at HB0 HO0 ⊢
  generalize w.heap.size=go at HO0 ⊢
  have m3:(d:Int)<20:=by have:=HD.out;omega
  go_loopg [6,8] d (fun gg v6 v8 wx=>∃ i,i<=d/\gg=d - i/\v8 = .int .i64 (i:Nat)/\Hid (Stand any_ wx (nestB i) v6)/\Hid (Sits wx go 25 #[.int .u8 0,.int .u8 0,.int .u64 1,.int .u8 0,.int .u8 0,.int .u8 0,.pointer none,.pointer none])/\Hid (Below w.heap.size w wx))
  case atStart=>exact ⟨0,by omega,by omega,rfl,Lib.hid (stand_nil _),HO0,HB0⟩
  case round =>
    obtain ⟨i,hi,rfl,rfl,HS,HO,HB⟩:=hrel
    obtain ⟨p6,c6,hv6,_⟩:=HS.out.len
    subst hv6
    by_cases hlt:i<d
    · have i1:(i:Int)<(d:Int):=by omega
      have HI:=Lib.hid hlt
      have hlow:Below wr.heap.size wr (wr.alloc (.cells #[.int .u8 9,.int .u8 0,.int .u8 0,.int .u8 0,.pointer (some ⟨go,0,none⟩),.pointer none,.slice p6 (nestB i).len c6,.slice none 0 0] 28)):=(Below.refl _ wr).alloc (Nat.le_refl _) _
      have HSN:=Lib.hid (show Stand any_ (wr.alloc (.cells #[.int .u8 9,.int .u8 0,.int .u8 0,.int .u8 0,.pointer (some ⟨go,0,none⟩),.pointer none,.slice p6 (nestB i).len c6,.slice none 0 0] 28)) (nestB (i+1)) (.slice (some ⟨wr.heap.size,0,none⟩) 1 1) from
        stand_one (m:=⟨9,0,0,0,oneE,none⟩) (Sits.new wr _ _) ((tree_one HO.out).below hlow) (tree_none _) (HS.out.below hlow) (stand_nil _))
      have HON:=Lib.hid (HO.out.below hlow HO.out.lt)
      have HBN:=Lib.hid (HB.out.trans (hlow.mono HB.out.size))
      clear hlow hi hlt
      go_wp2_with fail
      go_roundg (d - (i+1))
      case measure=>have:=HI.out;omega
      case rel=>exact ⟨i+1,HI.out,rfl,by go_num,HSN,HON,HBN⟩
    · obtain rfl:i=d:=by omega
      have i1:¬ ((i:Int)<(i:Int)):=by omega
      have hlow:Below wr.heap.size wr (wr.alloc (.cells #[.slice p6 (nestB i).len c6] 26)):=(Below.refl _ wr).alloc (Nat.le_refl _) _
      have HT1:=Lib.hid (testV_one (Sits.new wr 26 #[.slice p6 (nestB i).len c6]) (HS.out.below hlow) ((tree_one HO.out).below hlow))
      have HO1:=Lib.hid (HO.out.below hlow HO.out.lt)
      have HB1:=Lib.hid (HB.out.trans (hlow.mono HB.out.size))
      clear hlow hi hlt
      go_wp2_with fail
      generalize wr.alloc (.cells #[.slice p6 (nestB i).len c6] 26)=w2 at HT1 HO1 HB1 ⊢
      generalize wr.heap.size=gs at HT1 ⊢
      have hcc:=HCK.out _ (test_small (nest_fine i).1 (by rw [(nest_fine i).2];have:=HD.out;omega) one_ok) _ _ _ w2 HB1.out HT1.out
      rw [deep_check HD.out] at hcc
      refine hcc.mono ?_
      rintro e w3 ⟨rfl,hb⟩
      have HO3:=Lib.hid (HO1.out.below hb HO1.out.lt)
      have HB3:=Lib.hid (HB1.out.trans (hb.mono HB1.out.size))
      obtain ⟨want,hwant⟩:∃ want:Nat,want=if 7<i then 4 else 0:=⟨_,rfl⟩
      rw [<- hwant]
      generalize str (checkL (testB (nestB i) oneE))=s1
      have HW:=Lib.hid hwant
      clear hb hcc hwant
      go_upto_if 42 with (fail)
      go_cut [11] (fun v11 wx=>v11 = .int .i64 (want:Nat)/\Hid (Sits wx go 25 #[.int .u8 0,.int .u8 0,.int .u64 1,.int .u8 0,.int .u8 0,.int .u8 0,.pointer none,.pointer none])/\Hid (Below w.heap.size w wx))
      case first =>
        by_cases h7:7<i
        · have i2:(7:Int)<(i:Int):=by omega
          have HW4:=Lib.hid (show want=4 by rw [HW.out,if_pos h7])
          clear h7
          go_wp2_with fail
          go_meet
          exact ⟨by rw [HW4.out];rfl,HO3,HB3⟩
        · have i2:¬ (7:Int)<(i:Int):=by omega
          have HW4:=Lib.hid (show want=0 by rw [HW.out,if_neg h7])
          clear h7
          go_wp2_with fail
          go_meet
          exact ⟨by rw [HW4.out];rfl,HO3,HB3⟩
      case rest =>
        obtain ⟨rfl,HO4,HB4⟩:=hcut
        clear HO3 HB3 HT1 HO1 HB1 HS HO HB HW
        go_wp2_with fail
        have hl2:Below wc.heap.size wc ((wc.alloc (.cells (setCells go) 28)).alloc (.cells (xCells kk go (.slice (some ⟨wc.heap.size,0,none⟩) 1 1) (.slice none 0 0)) 28)):=((Below.refl _ _).alloc (Nat.le_refl _) _).alloc (by simp) _
        have hset:Stand any_ (wc.alloc (.cells (setCells go) 28)) setB (.slice (some ⟨wc.heap.size,0,none⟩) 1 1):=stand_one (m:=⟨1,0,0,0,oneE,none⟩) (Sits.new wc _ _) ((tree_one HO4.out).below ((Below.refl _ _).alloc (Nat.le_refl _) _)) (tree_none _) (stand_nil _) (stand_nil _)
        have HST:=Lib.hid (hset.below ((Below.refl _ _).alloc (Nat.le_refl _) (.cells (xCells kk go (.slice (some ⟨wc.heap.size,0,none⟩) 1 1) (.slice none 0 0)) 28)))
        have HSO:=Lib.hid (stand_off (g:=wc.heap.size+1) hset ((Below.refl _ _).alloc (Nat.le_refl _) (.cells (xCells kk go (.slice (some ⟨wc.heap.size,0,none⟩) 1 1) (.slice none 0 0)) 28)) (by simp))
        have HBX:=Lib.hid (show Sits ((wc.alloc (.cells (setCells go) 28)).alloc (.cells (xCells kk go (.slice (some ⟨wc.heap.size,0,none⟩) 1 1) (.slice none 0 0)) 28)) (wc.heap.size+1) 28 (xCells kk go (.slice (some ⟨wc.heap.size,0,none⟩) 1 1) (.slice none 0 0)) from Sits.made (by simp) _ _)
        have HOX:=Lib.hid (HO4.out.below hl2 HO4.out.lt)
        have HBW:=Lib.hid (HB4.out.trans (hl2.mono HB4.out.size))
        have hsz:wc.heap.size+1+1=((wc.alloc (.cells (setCells go) 28)).alloc (.cells (xCells kk go (.slice (some ⟨wc.heap.size,0,none⟩) 1 1) (.slice none 0 0)) 28)).heap.size:=by simp
        rw [hsz]
        have HGW:=Lib.hid (show w.heap.size<=wc.heap.size+1 by have:=HB4.out.size;omega)
        have HNE:=Lib.hid (show wc.heap.size+1≠go by have:=HO4.out.lt;omega)
        clear hl2 hset hsz HO4 HB4
        generalize (wc.alloc (.cells (setCells go) 28)).alloc (.cells (xCells kk go (.slice (some ⟨wc.heap.size,0,none⟩) 1 1) (.slice none 0 0)) 28)=w5 at HST HSO HBX HOX HBW ⊢
        generalize wc.heap.size+1=gx at HSO HBX HNE HGW ⊢
        generalize wc.heap.size=g0 at HST HSO HBX ⊢
        have hl3:Below w5.heap.size w5 ((w5.alloc (.cells (xCells kk go (.slice (some ⟨g0,0,none⟩) 1 1) (.slice none 0 0)) 28)).alloc (.cells #[.slice (some ⟨w5.heap.size,0,none⟩) 1 1] 26)):=((Below.refl _ _).alloc (Nat.le_refl _) _).alloc (by simp) _
        have hcc:=HCK.out _ (test_small (x_fine HK.out set_fine (show Blk.nil.fine from trivial)) (by simp [Blk.size]) one_ok) _ _ _ _ (HBW.out.trans (hl3.mono HBW.out.size)) (x_test HOX.out HST.out (stand_nil _))
        rw [bad_block (then_bad kk)] at hcc
        refine hcc.mono ?_
        rintro e w6 ⟨rfl,hb⟩
        have HB6:=Lib.hid (hl3.trans (hb.mono hl3.size))
        have HBX6:=Lib.hid (HBX.out.below HB6.out HBX.out.lt)
        have HOX6:=Lib.hid (HOX.out.below HB6.out HOX.out.lt)
        have HSO6:=Lib.hid (HSO.out.below HB6.out)
        have HGX:=Lib.hid (show w.heap.size<=gx from HGW.out)
        have HBW6:=Lib.hid (HBW.out.trans (HB6.out.mono HBW.out.size))
        generalize str (checkL (testB (.cons ⟨kk,0,2,120,oneE,oneE⟩ setB .nil .nil) oneE))=s2
        clear hl3 hb hcc HBX HOX HST HSO HBW HB6
        have a0:=HBX6.out.cell 0
        have a1:=HBX6.out.cell 1
        have a2:=HBX6.out.cell 2
        have a3:=HBX6.out.cell 3
        have a4:=HBX6.out.cell 4
        have a5:=HBX6.out.cell 5
        have a6:=HBX6.out.cell 6
        have a7:=HBX6.out.cell 7
        have f6:=HBX6.out.free 6
        have f7:=HBX6.out.free 7
        have lx:=HBX6.out.lt
        go_wp2_with fail
        have hkk:Keeps (fun x=>x=gx) w6 ((w6.setCell ⟨gx,6,none⟩ (.slice none 0 0)).setCell ⟨gx,7,none⟩ (.slice (some ⟨g0,0,none⟩) 1 1)):=((Keeps.refl (fun x=>x=gx) w6).put (p:=⟨gx,6,none⟩) (.inl rfl) _).put (p:=⟨gx,7,none⟩) (.inl rfl) _
        have HO7:=Lib.hid (HOX6.out.keep hkk (fun e=>HNE.out e.symm))
        have HS7:=Lib.hid ((HSO6.out.tickg HBX6.out (by decide) hkk).wider (X:=any_) (fun _ _=>trivial))
        have HB7:=Lib.hid (behind HBW6.out hkk HBW6.out.size (fun x e=>by have:=HGX.out;omega))
        have hsz2:w6.heap.size=((w6.setCell ⟨gx,6,none⟩ (.slice none 0 0)).setCell ⟨gx,7,none⟩ (.slice (some ⟨g0,0,none⟩) 1 1)).heap.size:=by simp [World.setCell]
        rw [hsz2]
        clear hkk hsz2 a0 a1 a2 a3 a4 a5 a6 a7 f6 f7 lx HBX6 HOX6 HSO6 HBW6
        generalize ((w6.setCell ⟨gx,6,none⟩ (.slice none 0 0)).setCell ⟨gx,7,none⟩ (.slice (some ⟨g0,0,none⟩) 1 1))=w7 at HO7 HS7 HB7 ⊢
        have hl3:Below w7.heap.size w7 ((w7.alloc (.cells (xCells kk go (.slice none 0 0) (.slice (some ⟨g0,0,none⟩) 1 1)) 28)).alloc (.cells #[.slice (some ⟨w7.heap.size,0,none⟩) 1 1] 26)):=((Below.refl _ _).alloc (Nat.le_refl _) _).alloc (by simp) _
        have hcc:=HCK.out _ (test_small (x_fine HK.out (show Blk.nil.fine from trivial) set_fine) (by simp [Blk.size]) one_ok) _ _ _ _ (HB7.out.trans (hl3.mono HB7.out.size)) (x_test HO7.out (stand_nil _) HS7.out)
        rw [bad_block (else_bad kk)] at hcc
        refine hcc.mono ?_
        rintro e w8 ⟨rfl,hb⟩
        have HB8:=Lib.hid (HB7.out.trans ((hl3.trans (hb.mono hl3.size)).mono HB7.out.size))
        generalize str (checkL (testB (.cons ⟨kk,0,2,120,oneE,oneE⟩ .nil setB .nil) oneE))=s3
        clear hl3 hb hcc HO7 HS7 HB7
        go_wp2_with fail
        have hl4:Below w8.heap.size w8 (w8.alloc (.cells #[.slice none 0 0] 26)):=(Below.refl _ _).alloc (Nat.le_refl _) _
        have hcc:=HCK.out _ (test_small (show Blk.nil.fine from trivial) (by decide) (show okO none from trivial)) _ _ _ _ (HB8.out.trans (hl4.mono HB8.out.size)) (testV_one (Sits.new w8 26 #[.slice none 0 0]) (stand_nil _) (tree_none _))
        rw [nobody_bad] at hcc
        refine hcc.mono ?_
        rintro e w9 ⟨rfl,hb⟩
        have HB9:=Lib.hid (HB8.out.trans ((hl4.trans (hb.mono hl4.size)).mono HB8.out.size))
        generalize str (checkL (testB .nil none))=s4
        clear hl4 hb hcc HB8
        go_wp2_with fail
        refine (HWK.out _ HB9.out).mono ?_
        rintro e w10 ⟨rfl,hb⟩
        have HF:=Lib.hid (HB9.out.trans (hb.mono HB9.out.size))
        clear hb
        go_wp2_with fail
        go_ret
        exact ⟨rfl,HF.out⟩
end Go.Proofs.YtbkdappgmcebaaaDoor.Chk
end
section
namespace Go.Proofs.YtbkdappgmcebaaaDoor.Chk
open Go.RowKit Go.ChangeShapes Go.WideShapes Go.ChangeAt Go.Proofs.YtbkdappgmcebaaaDoor.Card
section
variable {H : Type} {enc : TypeId × Value → H} {P : Program} {w : World} {base : Nat} {sp : Nat → Bool} {held : Bool}
theorem bools_of_struct {fuel:Nat} {t:TypeId} {fs:Array Field} {cs:List Value} {zs:List Bool} {p:List MemPlace} (ht:P.underlying t=some (.struct fs))
    (hf:∀ (i:Nat) (f:Field),fs[i]? = some f->P.underlying f.type=some .bool/\f.offset=i/\P.cellsOf f.type=1) (hct:P.cellsOf t=fs.size)
    (h:DataW.trod enc P w base sp held fuel t cs=some (.agg (zs.map fun z => .lit (.bool z)),p)):cs=zs.map fun z=>Value.bool z:=by
  obtain ⟨xs,n,rfl,hx,hl,hxl,hall⟩:=DataW.trod_struct ht h
  have hxs:xs.map (·.1)=zs.map fun z=>(DataW.lit (.bool z):DataW H):=by
    have:=congrArg Prod.fst hx
    simpa using this.symm
  have hzl:zs.length=fs.size:=by
    have:=congrArg List.length hxs
    simp at this
    omega
  apply List.ext_getElem?
  intro i
  by_cases hi:i<fs.size
  · obtain ⟨hu,ho,hc⟩:=hf i fs[i] (by simp [hi])
    have h1:=hall i fs[i] (by simp [hi])
    obtain ⟨b,hb⟩:∃ b,xs[i]? = some b:=⟨xs[i]'(by omega),List.getElem?_eq_getElem (by omega)⟩
    rw [hb,ho,hc] at h1
    obtain ⟨z,hcz,rfl⟩:=DataW.trod_bool hu h1
    have h2:cs[i]? = some (.bool z):=by
      have:=congrArg (·[0]?) hcz
      simpa [List.getElem?_take,List.getElem?_drop] using this
    have h3:(xs.map (·.1))[i]? = some (DataW.lit (.bool z):DataW H):=by simp [hb]
    rw [hxs] at h3
    simp only [List.getElem?_map,Option.map_eq_some_iff,DataW.lit.injEq,Lit.bool.injEq] at h3
    obtain ⟨z',hz',rfl⟩:=h3
    simp [h2,hz']
  · rw [List.getElem?_eq_none (by omega),List.getElem?_eq_none (by simp;omega)]
end
def kindData:DataW Unit:=.agg ((List.range 10).map fun k => .agg ((hasL k).map fun b => .lit (.bool b)))
theorem gKind : Tryd.prog.globalNamed "troth/check.kinds" = some 0 := by kernel_rfl
theorem gKindType:(Tryd.prog.globals[0]?).map (·.type)=some 87:=by kernel_rfl
theorem kindAt_of {W : World} (h : Lib.VarReads Tryd.prog W "troth/check.kinds" kindData) : KindAt W := by
  obtain ⟨g',t',cs,fuel,p,hg',ht',hvar,hd⟩:=h
  obtain rfl:=Option.some.inj (gKind.symm.trans hg')
  obtain rfl:=Option.some.inj (gKindType.symm.trans ht')
  have hc:∀ k i:Nat,k<10->i<7->W.cell? ⟨0,k * 7+i,none⟩=some (.bool (has k i)):=by
    intro k i hk hi
    obtain ⟨f2,d,q,hdk,hr⟩:=Lib.array_elem Tryd.underlying87 hd k hk
    have hdk':d = .agg ((hasL k).map fun b => .lit (.bool b)):=by
      simp only [List.getElem?_map,List.getElem?_range hk,Option.map_some,Option.some.injEq] at hdk
      exact hdk.symm
    subst hdk'
    rw [show Tryd.prog.cellsOf 86=7 by kernel_rfl] at hr
    have hz:=bools_of_struct Tryd.underlying86 (by
      intro j f hj
      rcases j with _ | _ | _ | _ | _ | _ | _ | j
      all_goals first
        | (cases hj;exact ⟨by kernel_rfl,rfl,by kernel_rfl⟩)
        | (simp at hj)) (by kernel_rfl) hr
    have h2:=World.var?_cell hg' hvar (k * 7+i)
    rw [h2]
    have h3:=congrArg (·[i]?) hz
    have hl:(hasL k).length=7:=by
      rcases k with _ | _ | _ | _ | _ | _ | _ | _ | _ | _ | k
      all_goals rfl
    have h4:(hasL k)[i]? = some (has k i):=by
      unfold has
      rw [List.getD_eq_getElem?_getD,List.getElem?_eq_getElem (by omega)];rfl
    simp only [List.getElem?_take,List.getElem?_drop,List.getElem?_map,h4,if_pos hi,Option.map_some] at h3
    rw [<- Array.getElem?_toList]
    exact h3
  refine ⟨?_,hc⟩
  have h0:=hc 0 0 (by omega) (by omega)
  apply Nat.lt_of_not_le
  intro hle
  have hn:W.heap[0]? = none:=Array.getElem?_eq_none hle
  simp [World.cell?,hn] at h0
def kindCells:Array Value:=((List.range 70).map fun j=>Value.bool (has (j / 7) (j % 7))).toArray
def layKinds:Obj->Obj
  | .cells _ t frozen => .cells kindCells t frozen
  | o=>o
end Go.Proofs.YtbkdappgmcebaaaDoor.Chk
end
section
namespace Go.Proofs.YtbkdappgmcebaaaDoor.CheckDeep
open Go.RowKit Go.ChangeShapes Go.WideShapes Go.ChangeAt Go.Proofs.YtbkdappgmcebaaaDoor.Card
theorem and_t {a b:Bool} (ha:a=true) (hb:b=true):(a && b)=true:=by rw [ha,hb];rfl
set_option maxHeartbeats 4000000 in
/-- The closed facts of the row, each by itself. -/
theorem said_joined:joinedFacts Tryd.pinned.checked.prog 3 Tryd.f3 (OpenSpec.ofChange Rows.checkDeepSpec).bare Rows.checkDeepRow=true:=by
  unfold joinedFacts
  repeat' (with_reducible refine and_t ?_ ?_)
  all_goals as_aux_lemma=>kernel_rfl
theorem said_named : Tryd.pinned.checked.prog.funcNamed "troth/trothlaw06.CheckDeep" = some 3 := by kernel_rfl
theorem said_inst:Tryd.f3.isInstance Tryd.pinned.checked.prog Rows.checkDeepRow.origin Rows.checkDeepRow.targs:=of_decide_eq_true (by kernel_rfl)
theorem said_wrap:Tryd.f3.isWrapper Tryd.pinned.checked.prog Rows.checkDeepRow.wrapper Rows.checkDeepRow.mainSum:=by unfold Func.isWrapper;first | (rw [if_pos (by decide +kernel)];kernel_rfl) | (rw [if_neg (by decide +kernel)];exact ⟨rfl,rfl⟩)
end Go.Proofs.YtbkdappgmcebaaaDoor.CheckDeep
end
section
namespace Go.Proofs.YtbkdappgmcebaaaDoor.CheckDeep
open Go.RowKit Go.ChangeShapes Go.WideShapes Go.ChangeAt Go.Proofs.YtbkdappgmcebaaaDoor.Card Go.Proofs.YtbkdappgmcebaaaDoor.Expr Go.Proofs.YtbkdappgmcebaaaDoor.Prog Go.Proofs.YtbkdappgmcebaaaDoor.Chk
theorem laidOut:laidOutB Tryd.prog=true:=by kernel_rfl
theorem gTexts : Tryd.prog.globalNamed "troth/num.texts" = some 3 := by kernel_rfl
theorem gTextsType:(Tryd.prog.globals[3]?).map (·.type)=some 131:=by kernel_rfl
theorem own:ownKnob Tryd.prog.godebug=none:=by kernel_rfl
theorem textsAt_of {w : World} (h : Num.StrIs Tryd.prog w "troth/num.texts" Num.texts) : Num.TextsAt w := by
  have hc:=fun (i:Nat) (hi:i<15)=>h.cell gTexts i (by simpa [Num.texts] using hi)
  refine ⟨?_,hc⟩
  have h0:=hc 0 (by omega)
  apply Nat.lt_of_not_le
  intro hle
  have hn:w.heap[3]? = none:=Array.getElem?_eq_none hle
  simp [World.cell?,hn] at h0
theorem gMode : Tryd.prog.globalNamed "troth/prog.modeTexts" = some 2 := by kernel_rfl
theorem gModeType:(Tryd.prog.globals[2]?).map (·.type)=some 130:=by kernel_rfl
theorem modeAt_of {w : World} (h : Num.StrIs Tryd.prog w "troth/prog.modeTexts" modes) : ModeAt w := by
  have hc:=fun (i:Nat) (hi:i<7)=>h.cell gMode i (by simpa [modes] using hi)
  refine ⟨?_,hc⟩
  have h0:=hc 0 (by omega)
  apply Nat.lt_of_not_le
  intro hle
  have hn:w.heap[2]? = none:=Array.getElem?_eq_none hle
  simp [World.cell?,hn] at h0
theorem all_of {W:World} (h:laidMetH Tryd.prog Rows.checkDeepRow.laid W):AllK W:=by
  have h':laidMet Tryd.prog Rows.checkDeepRow.laid W:=h
  refine ⟨⟨⟨textsAt_of (strs_of_reads gTexts gTextsType Tryd.underlying131 Tryd.underlying9 (by kernel_rfl) (by kernel_rfl) (Lib.laidMet.reads h' ?_)),trivial⟩,
    modeAt_of (strs_of_reads gMode gModeType Tryd.underlying130 Tryd.underlying9 (by kernel_rfl) (by kernel_rfl) (Lib.laidMet.reads h' ?_))⟩,kindAt_of (Lib.laidMet.reads h' ?_)⟩
  · exact .head _
  · exact .tail _ (.head _)
  · exact .tail _ (.tail _ (.head _))
noncomputable def laidWorld (os:Os):World :=
  { World.holding Tryd.prog os ⟨#[],#[],[]⟩ with heap:=(((World.holding Tryd.prog os ⟨#[],#[],[]⟩).heap.modify 3 (layOne Rows.laid_troth_num_texts)).modify 2 (layOne Rows.laid_troth_prog_modeTexts)).modify 0 layKinds }
theorem readable_rows:∀ t ∈ #[5,5].toList,Tryd.prog.readableRec t=true/\t<Tryd.prog.types.size:=by
  intro t ht
  obtain rfl:t=5:=by simpa using ht
  exact ⟨by kernel_rfl,of_decide_eq_true (by kernel_rfl)⟩
set_option maxRecDepth 100000 in
theorem contract (H:Type) (enc:TypeId × Value->H) (W:World) (base:Nat) (args:Array Value) (ds gs:List (DataW H)) (before:List MemPlace)
    (hval:∀ (j:Nat) t v,Tryd.f3.params[j]? = some t->args[j]? = some v->Value.okWide Tryd.prog W .any base t v)
    (hW:DataW.Whole enc Tryd.prog Tryd.f3.params.toList Rows.checkDeepSpec.vars false W args.toList ds gs before) (hL:laidMetH Tryd.prog Rows.checkDeepRow.laid W) :
    Calls Tryd.prog 3 args W fun e W'=>∃ v,e = .returned v/\Rows.checkDeepSpec.post enc Tryd.prog Tryd.f3 false true false false W args v W':=by
  have hW':=hW
  obtain ⟨p,q,hA0,hV,rfl,hfz,hnd⟩:=hW
  have hA:DataW.TrodAll enc Tryd.prog W 0 (fun _=>true) true Tryd.f3.params.toList args.toList ds p:=hA0
  rw [Tryd.params3] at hA hval
  have hAk:=hA
  obtain ⟨v0,vs0,d0,ds0,p0,q0,hargs,rfl,rfl,h0,r0⟩:=trodAll_cons hA
  obtain ⟨v1,vs1,d1,ds1,p1,q1,rfl,rfl,rfl,h1,r1⟩:=trodAll_cons r0
  obtain ⟨rfl,rfl,rfl⟩:=trodAll_nil r1
  obtain rfl:args=#[v0,v1]:=by cases args;simp_all
  obtain ⟨rfl,rfl⟩:=trodVars_none hV
  obtain ⟨a,rfl,rfl,rfl,wa⟩:=open_int Tryd.underlying5 (hval 0 5 v0 rfl rfl) h0
  obtain ⟨b,rfl,rfl,rfl,wb⟩:=open_int Tryd.underlying5 (hval 1 5 v1 rfl rfl) h1
  have ba:=bounds_u8 wa
  have bb:=bounds_u8 wb
  obtain ⟨na,rfl⟩:=Int.eq_ofNat_of_zero_le (show 0<=a by omega)
  obtain ⟨nb,rfl⟩:=Int.eq_ofNat_of_zero_le (show 0<=b by omega)
  clear hA0
  simp only [List.append_nil] at hW' hAk
  refine (deep_any na nb (by omega) (by omega) W (all_of hL)).mono fun e W' ⟨he,hg⟩=>?_
  subst he
  exact ⟨_,rfl,post_below (pv:=[]) hW' (fun _ _ _=>trodAll_cons_mk (shut_bool Tryd.underlying4 _) trodAll_mk0)
    (fun sp hsp=>trodAll_below laidOut hg (by rw [Tryd.params3];exact readable_rows) hAk (fun x hx=>by cases hx) hsp)
    (fun _ _=>rfl) (by simp) hg (ok_one (by kernel_rfl) rfl (okWide_bool_mk Tryd.underlying4 _))⟩
theorem laid_met (os:Os):laidMet Tryd.prog Rows.checkDeepRow.laid ((laidWorld os).forCall (fun _ _=>0) ⟨#[],#[.int .u8 0,.int .u8 0],[]⟩).memory :=
  laidMet_of_run' 8 (by kernel_rfl) (by kernel_rfl)
theorem reads (os:Os) {H:Type} (enc:TypeId × Value->H):∃ places,DataW.whole enc Tryd.prog ((laidWorld os).forCall (fun _ _=>0) ⟨#[],#[.int .u8 0,.int .u8 0],[]⟩).memory Tryd.f3.params.toList Rows.checkDeepSpec.vars false #[Value.int .u8 0,.int .u8 0].toList 8=some ([.lit (.int .u8 0),.lit (.int .u8 0)],[],places) :=
  ⟨[],by kernel_rfl⟩
set_option maxRecDepth 100000 in
theorem lifted (os:Os) (started:os.Started) (H:Type) (enc:TypeId × Value->H) (F:Stop.Interp) :
    ReturnsInHanded {} Tryd.checked os 3 .any ((OpenSpec.ofChange Rows.checkDeepSpec).preRow enc Tryd.prog Tryd.f3 Rows.checkDeepRow.domain false Rows.checkDeepRow.laid) (((OpenSpec.ofChange Rows.checkDeepSpec).at F).post enc Tryd.prog Tryd.f3 false true false false):=by
  obtain ⟨places,hx⟩:=reads os enc
  refine returnsInHanded_of_row (C:=Tryd.checked) (s:=OpenSpec.ofChange Rows.checkDeepSpec) own started (by kernel_rfl) Tryd.func3
    (witness_row_at (enc:=enc) (C:=Tryd.checked) false (laidWorld os) #[.int .u8 0,.int .u8 0] rfl (by kernel_rfl) (by kernel_rfl) (by kernel_rfl)
      (OpenSpec.preRow_of_cond 8 hx (by kernel_rfl) (fun k hk=>by cases hk) (by kernel_rfl) (laid_met os))) ?_
  intro W base args ds gs before hval hW _ _ _ hL _ _
  exact contract H enc W base args ds gs before hval hW hL
theorem said:Rows.CheckDeepSaid :=
  OpenClaim.holds_of_cond 3 Tryd.f3 rfl rfl rfl rfl rfl rfl rfl ⟨rfl,rfl,rfl,rfl,rfl⟩ rfl rfl rfl rfl rfl said_named Tryd.func3 said_joined said_inst said_wrap
    (fun os started H enc _ F=>by rw [OpenClaim.pre_eq_preRow];exact lifted os started H enc F)
theorem plain (f : FuncId) (fn : Func) (hf : Tryd.pinned.checked.prog.funcNamed "troth/trothlaw06.CheckDeep" = some f) (hfn : Tryd.pinned.checked.prog.funcs[f]? = some fn) :
    true=Tryd.pinned.checked.prog.looks []/\∀ (j:Nat) t,fn.params[j]? = some t->Tryd.pinned.checked.prog.wantsStandIn t=false:=by
  obtain rfl : f = 3 := Option.some.inj ((show Tryd.prog.funcNamed "troth/trothlaw06.CheckDeep" = some 3 by kernel_rfl).symm.trans hf) |>.symm
  obtain rfl:fn=Tryd.f3:=(Option.some.inj (Tryd.func3.symm.trans hfn)).symm
  refine ⟨by kernel_rfl,fun j t ht=>?_⟩
  rw [Tryd.params3] at ht
  have hm:t ∈ #[5,5]:=Array.mem_of_getElem? ht
  obtain rfl:t=5:=by simpa using hm
  exact (show Tryd.prog.wantsStandIn 5=false by kernel_rfl)
theorem card:Rows.CheckDeepCardSaid :=
  Claim7.holds_tied_plain_at .later [] _ _ _ _ said (fun _ h=>by cases h) (by kernel_rfl) (fun _ h=>by cases h) checkDeep_row_tie rfl ⟨rfl,rfl⟩ (by kernel_rfl) rfl plain (by kernel_rfl)
end Go.Proofs.YtbkdappgmcebaaaDoor.CheckDeep
end
