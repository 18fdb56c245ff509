/- Part 35 of the proof: what is used of the texts ChkN. -/
import Derived.Test.YtbkdappgmcebaaaGreatDoorLD0
import Derived.Test.YtbkdappgmcebaaaGreatDoorLD3
section
namespace Go.Proofs.YtbkdappgmcebaaaGreatDoor.Chk
open Go.RowKit Go.Proofs.YtbkdappgmcebaaaGreatDoor.Mem Go.Proofs.YtbkdappgmcebaaaGreatDoor.Expr Go.Proofs.YtbkdappgmcebaaaGreatDoor.Prog Go.Proofs.YtbkdappgmcebaaaGreatDoor.Prs Go.Lib
def AllK (w:World):Prop:=Prog.All w/\KindAt w
theorem AllK.below {w w':World} (h:AllK w) (hb:Below w.heap.size w w'):AllK w':=⟨h.1.below hb,h.2.below hb⟩
def ck1B:ByteArray:=⟨#[105,110,105,116,32,120,32,61,32,51,59,32,116,104,114,101,97,100,32,123,32,115,116,111,114,101,40,121,44,32,49,44,32,114,108,120,41,59,32,125,32,101,120,105,115,116,115,32,120,59]⟩
def ck2B:ByteArray:=⟨#[116,104,114,101,97,100,32,123,32,125,32,101,120,105,115,116,115,32,49,58,114,48,59]⟩
theorem ck1_list:ck1B.data.toList=ctext1:=by kernel_rfl
theorem ck2_list:ck2B.data.toList=ctext2:=by kernel_rfl
theorem csmall1:ctest1.small:=read_small ⟨cprints1,by decide,by
  intro b hb
  obtain rfl:b=_:=by simpa [ctest1] using hb
  decide⟩
theorem csmall2:ctest2.small:=read_small ⟨cprints2,by decide,by
  intro b hb
  obtain rfl:b=Blk.nil:=by simpa [ctest2] using hb
  decide⟩
set_option maxRecDepth 100000 in
theorem wakes_any (w:World) (hX:AllK w):Calls Tryz.prog 15 #[] w fun e w'=>Made (.returned (.bool true)) w e w':=by
  have HP1:=Lib.hid (fun W (h:Below w.heap.size w W)=>(show Calls Tryz.prog _ #[.string ⟨#[105,110,105,116,32,120,32,61,32,51,59,32,116,104,114,101,97,100,32,123,32,115,116,111,114,101,40,121,44,32,49,44,32,114,108,120,41,59,32,125,32,101,120,105,115,116,115,32,120,59]⟩] W fun e W'=>∃ pi ci pt ct pa,e = .returned (.tuple #[.agg #[.slice pi 1 ci,.slice pt 1 ct,.bool false,.pointer pa],.agg #[.int .i64 0,.int .i64 0],.int .i64 0])/\TestV W' ctest1 (.slice pi 1 ci) (.slice pt 1 ct) (.pointer pa)/\Below w.heap.size w W' /\ W.heap.size<=W'.heap.size from
    (parse_any ck1B W (by decide) (hX.1.below h)).mono fun e W' hm=>by
      rw [ck1_list,call1] at hm
      obtain ⟨hb,vi,vt,pa,he,hv⟩:=hm
      obtain ⟨pi,ci,rfl⟩:=hv.init.len
      obtain ⟨pt,ct,rfl⟩:=hv.threads.len
      exact ⟨pi,ci,pt,ct,pa,he,hv,h.trans (hb.mono h.size),hb.size⟩))
  have HP2:=Lib.hid (fun W (h:Below w.heap.size w W)=>(show Calls Tryz.prog _ #[.string ⟨#[116,104,114,101,97,100,32,123,32,125,32,101,120,105,115,116,115,32,49,58,114,48,59]⟩] W fun e W'=>∃ pi ci pt ct pa,e = .returned (.tuple #[.agg #[.slice pi 0 ci,.slice pt 1 ct,.bool false,.pointer pa],.agg #[.int .i64 0,.int .i64 0],.int .i64 0])/\TestV W' ctest2 (.slice pi 0 ci) (.slice pt 1 ct) (.pointer pa)/\Below W.heap.size W W' from
    (parse_any ck2B W (by decide) (hX.1.below h)).mono fun e W' hm=>by
      rw [ck2_list,call2] at hm
      obtain ⟨hb,vi,vt,pa,he,hv⟩:=hm
      obtain ⟨pi,ci,rfl⟩:=hv.init.len
      obtain ⟨pt,ct,rfl⟩:=hv.threads.len
      exact ⟨pi,ci,pt,ct,pa,he,hv,hb⟩))
  have HC1:=Lib.hid (fun pi ci pt ct pa W (h:Below w.heap.size w W) (hv:TestV W ctest1 (.slice pi 1 ci) (.slice pt 1 ct) (.pointer pa))=>(show Calls Tryz.prog _ #[.agg #[.slice pi 1 ci,.slice pt 1 ct,.bool false,.pointer pa]] W fun e W'=>e = .returned (.tuple #[.string ⟨#[120,121]⟩,.int .i64 0])/\Below W.heap.size W W' from
    (check_any ctest1 csmall1 _ _ _ W (hX.2.below h) hv).mono fun e W' hm=>by
      rw [ccheck1.1,ccheck1.2] at hm
      exact hm))
  have HC2:=Lib.hid (fun pi ci pt ct pa W (h:Below w.heap.size w W) (hv:TestV W ctest2 (.slice pi 0 ci) (.slice pt 1 ct) (.pointer pa))=>(show Calls Tryz.prog _ #[.agg #[.slice pi 0 ci,.slice pt 1 ct,.bool false,.pointer pa]] W fun e W'=>∃ s,e = .returned (.tuple #[.string s,.int .i64 7])/\Below W.heap.size W W' from
    (check_any ctest2 csmall2 _ _ _ W (hX.2.below h) hv).mono fun e W' hm=>by
      rw [ccheck2] at hm
      exact ⟨_,hm⟩))
  have HST:=Lib.hid (fun pi ci pt ct pa W (hv:TestV W ctest1 (.slice pi 1 ci) (.slice pt 1 ct) (.pointer pa))=>(show Calls Tryz.prog _ #[.agg #[.slice pi 1 ci,.slice pt 1 ct,.bool false,.pointer pa],.string ⟨#[120,121]⟩] W fun e W'=>∃ g o c,e = .returned (.slice (some ⟨g,o,none⟩) 2 c)/\W'.cell? ⟨g,o,none⟩=some (.int .u64 3)/\W'.cell? ⟨g,o+1,none⟩=some (.int .u64 0)/\Below W.heap.size W W' from
    (start_any ctest1 csmall1 [120,121] (by decide) _ _ _ W hv).mono fun e W' ⟨v,he,hr,hb⟩=>by
      rw [cstart1] at hr
      rcases hr with ⟨h,_⟩ | ⟨g,o,c,rfl,_,hc⟩
      · cases h
      · exact ⟨g,o,c,he,hc 0 3 rfl,hc 1 0 rfl,hb⟩))
  have HB:=Lib.hid (Below.refl w.heap.size w)
  clear hX
  go_enter Tryz.func15,Tryz.ntmps15
  go_wp2_with fail
  refine (HP1.out _ HB.out).mono ?_
  rintro e w1 ⟨pi,ci,pt,ct,pa,rfl,hv,hb,hz⟩
  have HV:=Lib.hid hv
  have HB1:=Lib.hid hb
  clear hv hb hz HP1
  have hlow:Below w1.heap.size w1 ((w1.alloc (.cells #[.slice pi 1 ci,.slice pt 1 ct,.bool false,.pointer pa] 27)).alloc (.cells #[.int .i64 0,.int .i64 0] 29)):=((Below.refl _ _).alloc (Nat.le_refl _) _).alloc (by simp) _
  have HS2:=Lib.hid (show Sits ((w1.alloc (.cells #[.slice pi 1 ci,.slice pt 1 ct,.bool false,.pointer pa] 27)).alloc (.cells #[.int .i64 0,.int .i64 0] 29)) w1.heap.size 27 #[.slice pi 1 ci,.slice pt 1 ct,.bool false,.pointer pa] from (Sits.new _ _ _).alloc _)
  have HV2:=Lib.hid (HV.out.below hlow)
  have HB2:=Lib.hid (HB1.out.trans (hlow.mono HB1.out.size))
  clear hlow HV
  go_wp2_with fail
  generalize (w1.alloc (.cells #[.slice pi 1 ci,.slice pt 1 ct,.bool false,.pointer pa] 27)).alloc (.cells #[.int .i64 0,.int .i64 0] 29)=w2 at HS2 HV2 HB2 ⊢
  generalize w1.heap.size=g1 at HS2 ⊢
  refine (HP2.out _ HB2.out).mono ?_
  rintro e w3 ⟨pi2,ci2,pt2,ct2,pa2,rfl,hv,hb⟩
  have HS3:=Lib.hid (HS2.out.below hb HS2.out.lt)
  have HV3:=Lib.hid (HV2.out.below hb)
  have HB3:=Lib.hid (HB2.out.trans (hb.mono HB2.out.size))
  have hlow:Below w3.heap.size w3 ((w3.alloc (.cells #[.slice pi2 0 ci2,.slice pt2 1 ct2,.bool false,.pointer pa2] 27)).alloc (.cells #[.int .i64 0,.int .i64 0] 29)):=((Below.refl _ _).alloc (Nat.le_refl _) _).alloc (by simp) _
  have HS4:=Lib.hid (HS3.out.below hlow HS3.out.lt)
  have HV4:=Lib.hid (HV3.out.below hlow)
  have HU4:=Lib.hid (hv.below hlow)
  have HB4:=Lib.hid (HB3.out.trans (hlow.mono HB3.out.size))
  have HT4:=Lib.hid (show Sits ((w3.alloc (.cells #[.slice pi2 0 ci2,.slice pt2 1 ct2,.bool false,.pointer pa2] 27)).alloc (.cells #[.int .i64 0,.int .i64 0] 29)) w3.heap.size 27 #[.slice pi2 0 ci2,.slice pt2 1 ct2,.bool false,.pointer pa2] from (Sits.new _ _ _).alloc _)
  have a0:=HS4.out.cell 0
  have a1:=HS4.out.cell 1
  have a2:=HS4.out.cell 2
  have a3:=HS4.out.cell 3
  have la:=HS4.out.lt
  clear hb hv hlow HP2 HS2 HS3 HV2 HV3
  go_wp2_with fail
  generalize (w3.alloc (.cells #[.slice pi2 0 ci2,.slice pt2 1 ct2,.bool false,.pointer pa2] 27)).alloc (.cells #[.int .i64 0,.int .i64 0] 29)=w4 at HS4 HV4 HU4 HB4 HT4 a0 a1 a2 a3 la ⊢
  generalize w3.heap.size=g3 at HT4 ⊢
  refine (HC1.out pi ci pt ct pa _ HB4.out HV4.out).mono ?_
  rintro e w5 ⟨rfl,hb⟩
  have HS5:=Lib.hid (HS4.out.below hb HS4.out.lt)
  have HT5:=Lib.hid (HT4.out.below hb HT4.out.lt)
  have HV5:=Lib.hid (HV4.out.below hb)
  have HU5:=Lib.hid (HU4.out.below hb)
  have HB5:=Lib.hid (HB4.out.trans (hb.mono HB4.out.size))
  clear hb a0 a1 a2 a3 la HS4 HT4 HV4 HU4 HB4
  have a0:=HT5.out.cell 0
  have a1:=HT5.out.cell 1
  have a2:=HT5.out.cell 2
  have a3:=HT5.out.cell 3
  have la:=HT5.out.lt
  go_wp2_with fail
  refine (HC2.out pi2 ci2 pt2 ct2 pa2 _ HB5.out HU5.out).mono ?_
  rintro e w6 ⟨s2,rfl,hb⟩
  have HS6:=Lib.hid (HS5.out.below hb HS5.out.lt)
  have HV6:=Lib.hid (HV5.out.below hb)
  have HB6:=Lib.hid (HB5.out.trans (hb.mono HB5.out.size))
  clear hb a0 a1 a2 a3 la HS5 HT5 HV5 HU5 HB5
  have a0:=HS6.out.cell 0
  have a1:=HS6.out.cell 1
  have a2:=HS6.out.cell 2
  have a3:=HS6.out.cell 3
  have la:=HS6.out.lt
  go_wp2_with fail
  refine (HST.out pi ci pt ct pa _ HV6.out).mono ?_
  rintro e w7 ⟨gv,ov,cv,rfl,v0,v1,hb⟩
  have HB7:=Lib.hid (HB6.out.trans (hb.mono HB6.out.size))
  have lv:=World.block_lt_of_cell? _ _ v0
  clear hb a0 a1 a2 a3 la HS6 HV6 HB6
  go_wp2_with fail
  go_ret
  exact ⟨rfl,HB7.out⟩
end Go.Proofs.YtbkdappgmcebaaaGreatDoor.Chk
end
