/- Part 37 of the proof: what is used of the texts ChkN, ChkO, ChkR. -/
import Derived.Test.YtbkdappgmcebaaaGreatDoorKD3
import Derived.Test.YtbkdappgmcebaaaGreatDoorKD4
import Derived.Test.YtbkdappgmcebaaaGreatDoorKD5
import Derived.Test.YtbkdappgmcebaaaGreatDoorKD2
section
namespace Go.Proofs.YtbkdappgmcebaaaGreatDoor.Chk
open Go.RowKit Go.Proofs.YtbkdappgmcebaaaGreatDoor.Mem Go.Proofs.YtbkdappgmcebaaaGreatDoor.Expr Go.Proofs.YtbkdappgmcebaaaGreatDoor.Prog Go.Proofs.YtbkdappgmcebaaaGreatDoor.Prs Go.Lib
def AllK (w:World):Prop:=Prog.All w/\KindAt w
theorem AllK.below {w w':World} (h:AllK w) (hb:Below w.heap.size w w'):AllK w':=⟨h.1.below hb,h.2.below hb⟩
def ck1B:ByteArray:=⟨#[105,110,105,116,32,120,32,61,32,51,59,32,116,104,114,101,97,100,32,123,32,115,116,111,114,101,40,121,44,32,49,44,32,114,108,120,41,59,32,125,32,101,120,105,115,116,115,32,120,59]⟩
def ck2B:ByteArray:=⟨#[116,104,114,101,97,100,32,123,32,125,32,101,120,105,115,116,115,32,49,58,114,48,59]⟩
theorem ck1_list:ck1B.data.toList=ctext1:=by kernel_rfl
theorem ck2_list:ck2B.data.toList=ctext2:=by kernel_rfl
theorem csmall1:ctest1.small:=read_small ⟨cprints1,by decide,by
  intro b hb
  obtain rfl:b=_:=by simpa [ctest1] using hb
  decide⟩
theorem csmall2:ctest2.small:=read_small ⟨cprints2,by decide,by
  intro b hb
  obtain rfl:b=Blk.nil:=by simpa [ctest2] using hb
  decide⟩
set_option maxRecDepth 100000 in
theorem wakes_any (w:World) (hX:AllK w):Calls Tryz.prog 15 #[] w fun e w'=>Made (.returned (.bool true)) w e w':=by
  have HP1:=Lib.hid (fun W (h:Below w.heap.size w W)=>(show Calls Tryz.prog _ #[.string ⟨#[105,110,105,116,32,120,32,61,32,51,59,32,116,104,114,101,97,100,32,123,32,115,116,111,114,101,40,121,44,32,49,44,32,114,108,120,41,59,32,125,32,101,120,105,115,116,115,32,120,59]⟩] W fun e W'=>∃ pi ci pt ct pa,e = .returned (.tuple #[.agg #[.slice pi 1 ci,.slice pt 1 ct,.bool false,.pointer pa],.agg #[.int .i64 0,.int .i64 0],.int .i64 0])/\TestV W' ctest1 (.slice pi 1 ci) (.slice pt 1 ct) (.pointer pa)/\Below w.heap.size w W' /\ W.heap.size<=W'.heap.size from
    (parse_any ck1B W (by decide) (hX.1.below h)).mono fun e W' hm=>by
      rw [ck1_list,call1] at hm
      obtain ⟨hb,vi,vt,pa,he,hv⟩:=hm
      obtain ⟨pi,ci,rfl⟩:=hv.init.len
      obtain ⟨pt,ct,rfl⟩:=hv.threads.len
      exact ⟨pi,ci,pt,ct,pa,he,hv,h.trans (hb.mono h.size),hb.size⟩))
  have HP2:=Lib.hid (fun W (h:Below w.heap.size w W)=>(show Calls Tryz.prog _ #[.string ⟨#[116,104,114,101,97,100,32,123,32,125,32,101,120,105,115,116,115,32,49,58,114,48,59]⟩] W fun e W'=>∃ pi ci pt ct pa,e = .returned (.tuple #[.agg #[.slice pi 0 ci,.slice pt 1 ct,.bool false,.pointer pa],.agg #[.int .i64 0,.int .i64 0],.int .i64 0])/\TestV W' ctest2 (.slice pi 0 ci) (.slice pt 1 ct) (.pointer pa)/\Below W.heap.size W W' from
    (parse_any ck2B W (by decide) (hX.1.below h)).mono fun e W' hm=>by
      rw [ck2_list,call2] at hm
      obtain ⟨hb,vi,vt,pa,he,hv⟩:=hm
      obtain ⟨pi,ci,rfl⟩:=hv.init.len
      obtain ⟨pt,ct,rfl⟩:=hv.threads.len
      exact ⟨pi,ci,pt,ct,pa,he,hv,hb⟩))
  have HC1:=Lib.hid (fun pi ci pt ct pa W (h:Below w.heap.size w W) (hv:TestV W ctest1 (.slice pi 1 ci) (.slice pt 1 ct) (.pointer pa))=>(show Calls Tryz.prog _ #[.agg #[.slice pi 1 ci,.slice pt 1 ct,.bool false,.pointer pa]] W fun e W'=>e = .returned (.tuple #[.string ⟨#[120,121]⟩,.int .i64 0])/\Below W.heap.size W W' from
    (check_any ctest1 csmall1 _ _ _ W (hX.2.below h) hv).mono fun e W' hm=>by
      rw [ccheck1.1,ccheck1.2] at hm
      exact hm))
  have HC2:=Lib.hid (fun pi ci pt ct pa W (h:Below w.heap.size w W) (hv:TestV W ctest2 (.slice pi 0 ci) (.slice pt 1 ct) (.pointer pa))=>(show Calls Tryz.prog _ #[.agg #[.slice pi 0 ci,.slice pt 1 ct,.bool false,.pointer pa]] W fun e W'=>∃ s,e = .returned (.tuple #[.string s,.int .i64 7])/\Below W.heap.size W W' from
    (check_any ctest2 csmall2 _ _ _ W (hX.2.below h) hv).mono fun e W' hm=>by
      rw [ccheck2] at hm
      exact ⟨_,hm⟩))
  have HST:=Lib.hid (fun pi ci pt ct pa W (hv:TestV W ctest1 (.slice pi 1 ci) (.slice pt 1 ct) (.pointer pa))=>(show Calls Tryz.prog _ #[.agg #[.slice pi 1 ci,.slice pt 1 ct,.bool false,.pointer pa],.string ⟨#[120,121]⟩] W fun e W'=>∃ g o c,e = .returned (.slice (some ⟨g,o,none⟩) 2 c)/\W'.cell? ⟨g,o,none⟩=some (.int .u64 3)/\W'.cell? ⟨g,o+1,none⟩=some (.int .u64 0)/\Below W.heap.size W W' from
    (start_any ctest1 csmall1 [120,121] (by decide) _ _ _ W hv).mono fun e W' ⟨v,he,hr,hb⟩=>by
      rw [cstart1] at hr
      rcases hr with ⟨h,_⟩ | ⟨g,o,c,rfl,_,hc⟩
      · cases h
      · exact ⟨g,o,c,he,hc 0 3 rfl,hc 1 0 rfl,hb⟩))
  have HB:=Lib.hid (Below.refl w.heap.size w)
  clear hX
  go_enter Tryz.func15,Tryz.ntmps15
  go_wp2_with fail
  refine (HP1.out _ HB.out).mono ?_
  rintro e w1 ⟨pi,ci,pt,ct,pa,rfl,hv,hb,hz⟩
  have HV:=Lib.hid hv
  have HB1:=Lib.hid hb
  clear hv hb hz HP1
  have hlow:Below w1.heap.size w1 ((w1.alloc (.cells #[.slice pi 1 ci,.slice pt 1 ct,.bool false,.pointer pa] 27)).alloc (.cells #[.int .i64 0,.int .i64 0] 29)):=((Below.refl _ _).alloc (Nat.le_refl _) _).alloc (by simp) _
  have HS2:=Lib.hid (show Sits ((w1.alloc (.cells #[.slice pi 1 ci,.slice pt 1 ct,.bool false,.pointer pa] 27)).alloc (.cells #[.int .i64 0,.int .i64 0] 29)) w1.heap.size 27 #[.slice pi 1 ci,.slice pt 1 ct,.bool false,.pointer pa] from (Sits.new _ _ _).alloc _)
  have HV2:=Lib.hid (HV.out.below hlow)
  have HB2:=Lib.hid (HB1.out.trans (hlow.mono HB1.out.size))
  clear hlow HV
  go_wp2_with fail
  generalize (w1.alloc (.cells #[.slice pi 1 ci,.slice pt 1 ct,.bool false,.pointer pa] 27)).alloc (.cells #[.int .i64 0,.int .i64 0] 29)=w2 at HS2 HV2 HB2 ⊢
  generalize w1.heap.size=g1 at HS2 ⊢
  refine (HP2.out _ HB2.out).mono ?_
  rintro e w3 ⟨pi2,ci2,pt2,ct2,pa2,rfl,hv,hb⟩
  have HS3:=Lib.hid (HS2.out.below hb HS2.out.lt)
  have HV3:=Lib.hid (HV2.out.below hb)
  have HB3:=Lib.hid (HB2.out.trans (hb.mono HB2.out.size))
  have hlow:Below w3.heap.size w3 ((w3.alloc (.cells #[.slice pi2 0 ci2,.slice pt2 1 ct2,.bool false,.pointer pa2] 27)).alloc (.cells #[.int .i64 0,.int .i64 0] 29)):=((Below.refl _ _).alloc (Nat.le_refl _) _).alloc (by simp) _
  have HS4:=Lib.hid (HS3.out.below hlow HS3.out.lt)
  have HV4:=Lib.hid (HV3.out.below hlow)
  have HU4:=Lib.hid (hv.below hlow)
  have HB4:=Lib.hid (HB3.out.trans (hlow.mono HB3.out.size))
  have HT4:=Lib.hid (show Sits ((w3.alloc (.cells #[.slice pi2 0 ci2,.slice pt2 1 ct2,.bool false,.pointer pa2] 27)).alloc (.cells #[.int .i64 0,.int .i64 0] 29)) w3.heap.size 27 #[.slice pi2 0 ci2,.slice pt2 1 ct2,.bool false,.pointer pa2] from (Sits.new _ _ _).alloc _)
  have a0:=HS4.out.cell 0
  have a1:=HS4.out.cell 1
  have a2:=HS4.out.cell 2
  have a3:=HS4.out.cell 3
  have la:=HS4.out.lt
  clear hb hv hlow HP2 HS2 HS3 HV2 HV3
  go_wp2_with fail
  generalize (w3.alloc (.cells #[.slice pi2 0 ci2,.slice pt2 1 ct2,.bool false,.pointer pa2] 27)).alloc (.cells #[.int .i64 0,.int .i64 0] 29)=w4 at HS4 HV4 HU4 HB4 HT4 a0 a1 a2 a3 la ⊢
  generalize w3.heap.size=g3 at HT4 ⊢
  refine (HC1.out pi ci pt ct pa _ HB4.out HV4.out).mono ?_
  rintro e w5 ⟨rfl,hb⟩
  have HS5:=Lib.hid (HS4.out.below hb HS4.out.lt)
  have HT5:=Lib.hid (HT4.out.below hb HT4.out.lt)
  have HV5:=Lib.hid (HV4.out.below hb)
  have HU5:=Lib.hid (HU4.out.below hb)
  have HB5:=Lib.hid (HB4.out.trans (hb.mono HB4.out.size))
  clear hb a0 a1 a2 a3 la HS4 HT4 HV4 HU4 HB4
  have a0:=HT5.out.cell 0
  have a1:=HT5.out.cell 1
  have a2:=HT5.out.cell 2
  have a3:=HT5.out.cell 3
  have la:=HT5.out.lt
  go_wp2_with fail
  refine (HC2.out pi2 ci2 pt2 ct2 pa2 _ HB5.out HU5.out).mono ?_
  rintro e w6 ⟨s2,rfl,hb⟩
  have HS6:=Lib.hid (HS5.out.below hb HS5.out.lt)
  have HV6:=Lib.hid (HV5.out.below hb)
  have HB6:=Lib.hid (HB5.out.trans (hb.mono HB5.out.size))
  clear hb a0 a1 a2 a3 la HS5 HT5 HV5 HU5 HB5
  have a0:=HS6.out.cell 0
  have a1:=HS6.out.cell 1
  have a2:=HS6.out.cell 2
  have a3:=HS6.out.cell 3
  have la:=HS6.out.lt
  go_wp2_with fail
  refine (HST.out pi ci pt ct pa _ HV6.out).mono ?_
  rintro e w7 ⟨gv,ov,cv,rfl,v0,v1,hb⟩
  have HB7:=Lib.hid (HB6.out.trans (hb.mono HB6.out.size))
  have lv:=World.block_lt_of_cell? _ _ v0
  clear hb a0 a1 a2 a3 la HS6 HV6 HB6
  go_wp2_with fail
  go_ret
  exact ⟨rfl,HB7.out⟩
end Go.Proofs.YtbkdappgmcebaaaGreatDoor.Chk
end
section
namespace Go.Proofs.YtbkdappgmcebaaaGreatDoor.Chk
open Go.Proofs.YtbkdappgmcebaaaGreatDoor.Expr Go.Proofs.YtbkdappgmcebaaaGreatDoor.Prog Go.Proofs.YtbkdappgmcebaaaGreatDoor.Prs
theorem kinds_false {e:Ex} (h:leafy false e):∀ b,exFold (kindL [0,1]) e b=b:=by
  induction e with
  | num n=>intro b;simp [exFold,kindL,leafIt]
  | reg i=>intro b;simp [exFold,kindL,leafIt]
  | of t i=>cases h
  | loc x=>cases h
  | one op a ih=>intro b;exact ih h b
  | two op a c iha ihc=>intro b;show exFold _ c (exFold _ a b)=b;rw [iha h.1,ihc h.2]
theorem kinds_true {e:Ex} (h:leafy true e):∀ b,exFold (kindL [0,2,3]) e b=b:=by
  induction e with
  | num n=>intro b;simp [exFold,kindL,leafIt]
  | reg i=>cases h
  | of t i=>intro b;simp [exFold,kindL,leafIt]
  | loc x=>intro b;simp [exFold,kindL,leafIt]
  | one op a ih=>intro b;exact ih h b
  | two op a c iha ihc=>intro b;show exFold _ c (exFold _ a b)=b;rw [iha h.1,ihc h.2]
theorem exMay_false {a:Option Ex} (h:leafyO false a) (hs:a.isSome=true):exMay [0,1] a=true:=by
  cases a with
  | none=>cases hs
  | some e=>exact kinds_false h true
theorem exMay_true {a:Option Ex} (h:leafyO true a) (hs:a.isSome=true):exMay [0,2,3] a=true:=by
  cases a with
  | none=>cases hs
  | some e=>exact kinds_true h true
theorem isLoc_letter {x:Nat} (h:isLetter x) (hr:x≠114):isLoc x=true:=isLoc_true h.1 h.2 hr
theorem stMay_ok {m:Mk} {t e:Blk} (h:m.proper) (p:Plain m) (he:m.kind≠8->e = .nil) (ht:m.kind≠8->m.kind≠9->t = .nil):stMay m t.len e.len=true:=by
  obtain ⟨kind,reg,mode,loc,a,b⟩:=m
  obtain ⟨_,_,h⟩:=h
  obtain ⟨pa,pb,pl,pr⟩:=p
  simp only at h he ht pa pb pl pr
  match kind,h with
  | 1,⟨h1,h2,h3,h4⟩ =>
    obtain rfl:=he (by decide);obtain rfl:=ht (by decide) (by decide);subst h1 h2 h4
    simp [stMay,has,hasL,fitB,pr,exMay_false pa h3,Blk.len]
  | 2,⟨h1,h2,h3,h4⟩ =>
    obtain rfl:=he (by decide);obtain rfl:=ht (by decide) (by decide);subst h3 h4
    have:=isLoc_letter h2 pl
    rcases h1 with rfl | rfl | rfl <;> simp [stMay,has,hasL,fitB,pr,this,Blk.len,modesOf]
  | 3,⟨h1,h2,h3,h4,h5⟩ =>
    obtain rfl:=he (by decide);obtain rfl:=ht (by decide) (by decide);subst h3 h5
    have:=isLoc_letter h2 pl
    rcases h1 with rfl | rfl | rfl <;> simp [stMay,has,hasL,fitB,this,exMay_false pa h4,Blk.len,modesOf]
  | 4,⟨h1,h2,h3,h4⟩ =>
    obtain rfl:=he (by decide);obtain rfl:=ht (by decide) (by decide);subst h4
    have:=isLoc_letter h2 pl
    rcases h1 with rfl | rfl | rfl | rfl <;> simp [stMay,has,hasL,fitB,pr,this,exMay_false pa h3,Blk.len,modesOf]
  | 5,⟨h1,h2,h3,h4⟩ =>
    obtain rfl:=he (by decide);obtain rfl:=ht (by decide) (by decide);subst h4
    have:=isLoc_letter h2 pl
    rcases h1 with rfl | rfl | rfl | rfl <;> simp [stMay,has,hasL,fitB,pr,this,exMay_false pa h3,Blk.len,modesOf]
  | 6,⟨h1,h2,h3,h4⟩ =>
    obtain rfl:=he (by decide);obtain rfl:=ht (by decide) (by decide)
    have:=isLoc_letter h2 pl
    rcases h1 with rfl | rfl | rfl | rfl <;> simp [stMay,has,hasL,fitB,pr,this,exMay_false pa h3,exMay_false pb h4,Blk.len,modesOf]
  | 7,⟨h1,h2,h3,h4,h5⟩ =>
    obtain rfl:=he (by decide);obtain rfl:=ht (by decide) (by decide);subst h2 h3 h4 h5
    rcases h1 with rfl | rfl | rfl | rfl <;> simp [stMay,has,hasL,fitB,Blk.len,modesOf]
  | 8,⟨h1,h2,h3,h4,h5⟩ =>
    subst h1 h2 h3 h5
    simp [stMay,has,hasL,fitB,exMay_false pa h4]
  | 9,⟨h1,h2,h3,h4,h5⟩ =>
    obtain rfl:=he (by decide);subst h1 h2 h3 h5
    simp [stMay,has,hasL,fitB,exMay_false pa h4,Blk.len]
  | 0,h | n+10,h=>exact h.elim
theorem fold_ok:∀ {b:Blk},b.proper->plainB b->∀ room,b.fold mayR room true=true:=by
  intro b
  induction b with
  | nil=>intro _ _ room;rfl
  | cons m t e r iht ihe ihr =>
    rintro ⟨h1,h2,h3,h4,h5,h6⟩ ⟨p1,p2,p3,p4⟩ room
    cases room with
    | zero=>rfl
    | succ room =>
      have hm:mayR m t.len e.len true=true:=by unfold mayR;rw [Bool.true_and];exact stMay_ok h1 p1 h5 h6
      simp only [Blk.fold,hm,iht h2 p2 room,ihe h3 p3 room]
      have:(if m.kind=8 then true else if m.kind=9 then true else true)=true:=by split <;> (try split) <;> rfl
      rw [this]
      exact ihr h4 p4 (room+1)
theorem stsMay_ok:∀ (l:List Blk),(∀ b ∈ l,b.proper/\plainB b)->stsMay l true=true:=by
  intro l
  induction l with
  | nil=>intro _;rfl
  | cons b l ih =>
    intro h
    show stsMay l (b.fold mayR 8 true)=true
    rw [fold_ok (h b List.mem_cons_self).1 (h b List.mem_cons_self).2 8]
    exact ih fun c hc=>h c (List.mem_cons_of_mem _ hc)
theorem met_iff {x:Nat} (hx:isLoc x=true):∀ (pre:List (Nat × Nat)) (m:Let),(initL pre m (x - 97)=true ↔ m (x - 97)=true \/ ∃ i ∈ pre,isLoc i.1=true/\i.1=x):=by
  intro pre
  obtain ⟨h1,h2,_⟩:=isLoc_of hx
  induction pre with
  | nil=>intro m;simp [initL]
  | cons i pre ih =>
    intro m
    show initL pre (putL i.1 m) (x - 97)=true ↔ _
    rw [ih]
    unfold putL
    by_cases hl:isLoc i.1=true
    · obtain ⟨h3,h4,_⟩:=isLoc_of hl
      have:(x - 97 == i.1 - 97)=decide (i.1=x):=by
        by_cases e:i.1=x
        · rw [e];simp
        · rw [decide_eq_false e];exact beq_eq_false_iff_ne.2 (by omega)
      simp [hl,this,or_assoc]
    · simp only [Bool.not_eq_true] at hl
      simp [hl]
theorem starts_iff:∀ (l pre:List (Nat × Nat)),(∀ x ∈ l,isLoc x.1=true)->(∀ x ∈ pre,isLoc x.1=true)->(startsF l (initL pre noLet)=true ↔ (∀ x ∈ l,∀ y ∈ pre,y.1≠x.1)/\l.Pairwise fun x y=>x.1≠y.1):=by
  intro l
  induction l with
  | nil=>intro pre _ _;simp [startsF]
  | cons x l ih =>
    intro pre hl hp
    have hx:=hl x List.mem_cons_self
    have hm:=met_iff hx pre noLet
    have ih':=ih (pre ++ [x]) (fun y hy=>hl y (List.mem_cons_of_mem _ hy)) (fun y hy=>by
      rcases List.mem_append.1 hy with hy | hy
      · exact hp y hy
      · obtain rfl:y=x:=by simpa using hy
        exact hx)
    rw [initL_snoc] at ih'
    unfold startsF
    rw [hx,Bool.true_and,Bool.and_eq_true,ih',List.pairwise_cons]
    cases hc:initL pre noLet (x.1 - 97) with
    | true =>
      rw [hc] at hm
      obtain h | ⟨y,hy,_,e⟩:=hm.1 rfl
      · cases h
      · simp only [Bool.not_true,Bool.false_eq_true,false_and,false_iff]
        rintro ⟨h,_⟩
        exact h x List.mem_cons_self y hy e
    | false =>
      have hno:∀ y ∈ pre,y.1≠x.1:=fun y hy e=>by
        have:=hm.2 (.inr ⟨y,hy,hp y hy,e⟩)
        rw [hc] at this;cases this
      simp only [Bool.not_false,true_and]
      constructor
      · rintro ⟨h1,h2⟩
        refine ⟨fun z hz y hy=>?_,fun y hy=>?_,h2⟩
        · rcases List.mem_cons.1 hz with rfl | hz
          · exact hno y hy
          · exact h1 z hz y (List.mem_append_left _ hy)
        · exact h1 y hy x (List.mem_append_right _ List.mem_cons_self)
      · rintro ⟨h1,h2,h3⟩
        refine ⟨fun z hz y hy=>?_,h3⟩
        rcases List.mem_append.1 hy with hy | hy
        · exact h1 z (List.mem_cons_of_mem _ hz) y hy
        · obtain rfl:y=x:=by simpa using hy
          exact h2 z hz
def twice (l:List (Nat × Nat)):Prop:=∃ (i k:Nat) (x y:Nat × Nat),k<i/\l[i]? = some x/\l[k]? = some y/\x.1=y.1
theorem twice_iff (l:List (Nat × Nat)):twice l ↔ ¬ l.Pairwise fun x y=>x.1≠y.1:=by
  rw [List.pairwise_iff_getElem]
  constructor
  · rintro ⟨i,k,x,y,h,hi,hk,e⟩ hp
    obtain ⟨li,ei⟩:=List.getElem?_eq_some_iff.1 hi
    obtain ⟨lk,ek⟩:=List.getElem?_eq_some_iff.1 hk
    exact hp k i lk li h (by rw [ei,ek];exact e.symm)
  · intro h
    simp only [Classical.not_forall] at h
    obtain ⟨k,i,lk,li,hlt,e⟩:=h
    exact ⟨i,k,_,_,hlt,List.getElem?_eq_getElem li,List.getElem?_eq_getElem lk,(Classical.not_not.1 e).symm⟩
theorem check_read {t:Ts} (h:Prs.Read t):(checkE t=1 ↔ twice t.init \/ t.threads.length=0)/\(checkE t=0 \/ checkE t=1 \/ checkE t=4 \/ checkE t=7)/\(checkE t=0->(locsF t).length<=4):=by
  have h2:stsMay t.threads true=true:=stsMay_ok t.threads fun b hb=>⟨(h.prints.proper.threads b hb).1,h.prints.threads b hb⟩
  have h4:exMay [0,2,3] t.ask=true:=exMay_true h.prints.ask h.prints.proper.some
  have h3:startsF t.init noLet=true ↔ ¬ twice t.init:=by
    have:=starts_iff t.init [] (fun x hx=>isLoc_letter (h.prints.proper.init x hx) (h.prints.init x hx).1) (by simp)
    rw [twice_iff,Classical.not_not]
    exact this.trans (by simp)
  unfold checkE
  by_cases h1:t.threads.length=0
  · simp [h1]
  · by_cases ht:twice t.init
    · have:startsF t.init noLet=false:=by
        cases hs:startsF t.init noLet with
        | false=>rfl
        | true=>exact absurd ht (h3.1 hs)
      simp [h1,h2,this,ht]
    · have:=h3.2 ht
      simp only [h1,if_false,h2,this,h4,Bool.true_eq_false,ht,or_self,iff_false]
      refine ⟨?_,?_,?_⟩
      · repeat' split
        all_goals simp
      · repeat' split
        all_goals simp
      · repeat' split
        all_goals first | (intro h;cases h;done) | (intro _;omega)
end Go.Proofs.YtbkdappgmcebaaaGreatDoor.Chk
end
section
namespace Go.Proofs.YtbkdappgmcebaaaGreatDoor.Chk
open Go.RowKit Go.ChangeShapes Go.WideShapes Go.ChangeAt Go.Proofs.YtbkdappgmcebaaaGreatDoor.Card
section
variable {H : Type} {enc : TypeId × Value → H} {P : Program} {w : World} {base : Nat} {sp : Nat → Bool} {held : Bool}
theorem bools_of_struct {fuel:Nat} {t:TypeId} {fs:Array Field} {cs:List Value} {zs:List Bool} {p:List MemPlace} (ht:P.underlying t=some (.struct fs))
    (hf:∀ (i:Nat) (f:Field),fs[i]? = some f->P.underlying f.type=some .bool/\f.offset=i/\P.cellsOf f.type=1) (hct:P.cellsOf t=fs.size)
    (h:DataW.trod enc P w base sp held fuel t cs=some (.agg (zs.map fun z => .lit (.bool z)),p)):cs=zs.map fun z=>Value.bool z:=by
  obtain ⟨xs,n,rfl,hx,hl,hxl,hall⟩:=DataW.trod_struct ht h
  have hxs:xs.map (·.1)=zs.map fun z=>(DataW.lit (.bool z):DataW H):=by
    have:=congrArg Prod.fst hx
    simpa using this.symm
  have hzl:zs.length=fs.size:=by
    have:=congrArg List.length hxs
    simp at this
    omega
  apply List.ext_getElem?
  intro i
  by_cases hi:i<fs.size
  · obtain ⟨hu,ho,hc⟩:=hf i fs[i] (by simp [hi])
    have h1:=hall i fs[i] (by simp [hi])
    obtain ⟨b,hb⟩:∃ b,xs[i]? = some b:=⟨xs[i]'(by omega),List.getElem?_eq_getElem (by omega)⟩
    rw [hb,ho,hc] at h1
    obtain ⟨z,hcz,rfl⟩:=DataW.trod_bool hu h1
    have h2:cs[i]? = some (.bool z):=by
      have:=congrArg (·[0]?) hcz
      simpa [List.getElem?_take,List.getElem?_drop] using this
    have h3:(xs.map (·.1))[i]? = some (DataW.lit (.bool z):DataW H):=by simp [hb]
    rw [hxs] at h3
    simp only [List.getElem?_map,Option.map_eq_some_iff,DataW.lit.injEq,Lit.bool.injEq] at h3
    obtain ⟨z',hz',rfl⟩:=h3
    simp [h2,hz']
  · rw [List.getElem?_eq_none (by omega),List.getElem?_eq_none (by simp;omega)]
end
def kindData:DataW Unit:=.agg ((List.range 10).map fun k => .agg ((hasL k).map fun b => .lit (.bool b)))
theorem gKind : Tryz.prog.globalNamed "troth/check.kinds" = some 0 := by kernel_rfl
theorem gKindType:(Tryz.prog.globals[0]?).map (·.type)=some 213:=by kernel_rfl
theorem kindAt_of {W : World} (h : Lib.VarReads Tryz.prog W "troth/check.kinds" kindData) : KindAt W := by
  obtain ⟨g',t',cs,fuel,p,hg',ht',hvar,hd⟩:=h
  obtain rfl:=Option.some.inj (gKind.symm.trans hg')
  obtain rfl:=Option.some.inj (gKindType.symm.trans ht')
  have hc:∀ k i:Nat,k<10->i<7->W.cell? ⟨0,k * 7+i,none⟩=some (.bool (has k i)):=by
    intro k i hk hi
    obtain ⟨f2,d,q,hdk,hr⟩:=Lib.array_elem Tryz.underlying213 hd k hk
    have hdk':d = .agg ((hasL k).map fun b => .lit (.bool b)):=by
      simp only [List.getElem?_map,List.getElem?_range hk,Option.map_some,Option.some.injEq] at hdk
      exact hdk.symm
    subst hdk'
    rw [show Tryz.prog.cellsOf 212=7 by kernel_rfl] at hr
    have hz:=bools_of_struct Tryz.underlying212 (by
      intro j f hj
      rcases j with _ | _ | _ | _ | _ | _ | _ | j
      all_goals first
        | (cases hj;exact ⟨by kernel_rfl,rfl,by kernel_rfl⟩)
        | (simp at hj)) (by kernel_rfl) hr
    have h2:=World.var?_cell hg' hvar (k * 7+i)
    rw [h2]
    have h3:=congrArg (·[i]?) hz
    have hl:(hasL k).length=7:=by
      rcases k with _ | _ | _ | _ | _ | _ | _ | _ | _ | _ | k
      all_goals rfl
    have h4:(hasL k)[i]? = some (has k i):=by
      unfold has
      rw [List.getD_eq_getElem?_getD,List.getElem?_eq_getElem (by omega)];rfl
    simp only [List.getElem?_take,List.getElem?_drop,List.getElem?_map,h4,if_pos hi,Option.map_some] at h3
    rw [<- Array.getElem?_toList]
    exact h3
  refine ⟨?_,hc⟩
  have h0:=hc 0 0 (by omega) (by omega)
  apply Nat.lt_of_not_le
  intro hle
  have hn:W.heap[0]? = none:=Array.getElem?_eq_none hle
  simp [World.cell?,hn] at h0
def kindCells:Array Value:=((List.range 70).map fun j=>Value.bool (has (j / 7) (j % 7))).toArray
def layKinds:Obj->Obj
  | .cells _ t frozen => .cells kindCells t frozen
  | o=>o
end Go.Proofs.YtbkdappgmcebaaaGreatDoor.Chk
end
