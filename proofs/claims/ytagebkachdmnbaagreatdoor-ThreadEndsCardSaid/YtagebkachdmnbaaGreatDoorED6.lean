/- Part 37 of the proof: what is used of the texts ChkK. -/
import Derived.Test.YtagebkachdmnbaaGreatDoorED5
section
namespace Go.Proofs.YtagebkachdmnbaaGreatDoor.Chk
open Go.RowKit Go.Proofs.YtagebkachdmnbaaGreatDoor.Mem Go.Proofs.YtagebkachdmnbaaGreatDoor.Expr Go.Proofs.YtagebkachdmnbaaGreatDoor.Prog Go.Lib
def answers (t:Ts):List Nat :=
  [if decide (t.threads.length=0) then 1 else 0,if !stsMay t.threads true then 1 else 0,if !startsF t.init noLet then 1 else 0,if !exMay [0,2,3] t.ask then 1 else 0,
   if decide (4<t.threads.length) then 4 else 0,if t.threads.any (fun b=>decide (8<b.deep)) then 4 else 0,if decide (4<(locsF t).length) then 4 else 0,if nobodyF t then 7 else 0]
theorem answers_first (t:Ts):firstE (answers t)=checkE t:=by
  unfold answers checkE
  generalize t.threads.length=n
  generalize stsMay t.threads true=b2
  generalize startsF t.init noLet=b3
  generalize exMay [0,2,3] t.ask=b4
  generalize t.threads.any (fun b=>decide (8<b.deep))=b6
  generalize (locsF t).length=m
  generalize nobodyF t=b8
  by_cases h1:n=0
  · simp [h1,firstE]
  · by_cases h5:4<n
    · cases b2 <;> cases b3 <;> cases b4 <;> cases b6 <;> cases b8 <;> simp [h1,h5,firstE]
    · by_cases h7:4<m
      · cases b2 <;> cases b3 <;> cases b4 <;> cases b6 <;> cases b8 <;> simp [h1,h5,h7,firstE]
      · cases b2 <;> cases b3 <;> cases b4 <;> cases b6 <;> cases b8 <;> simp [h1,h5,h7,firstE]
theorem en1:Expr.Enters 78:=enters_of Tryz.func78 (by kernel_rfl) rfl
theorem en2:Expr.Enters 79:=enters_of Tryz.func79 (by kernel_rfl) rfl
theorem en3:Expr.Enters 81:=enters_of Tryz.func81 (by kernel_rfl) rfl
theorem en4:Expr.Enters 83:=enters_of Tryz.func83 (by kernel_rfl) rfl
theorem en5:Expr.Enters 85:=enters_of Tryz.func85 (by kernel_rfl) rfl
theorem en6:Expr.Enters 86:=enters_of Tryz.func86 (by kernel_rfl) rfl
theorem en7:Expr.Enters 89:=enters_of Tryz.func89 (by kernel_rfl) rfl
theorem en8:Expr.Enters 91:=enters_of Tryz.func91 (by kernel_rfl) rfl
set_option maxRecDepth 100000 in
set_option maxHeartbeats 1000000 in
theorem check_any (t:Ts) (ht:t.small) (vi vt va:Value) (w:World) (hK:KindAt w) (hV:TestV w t vi vt va) :
    Calls Tryz.prog 40 #[testAgg vi vt t.all va] w fun e w'=>Made (.returned (.tuple #[.string (str (checkL t)),.int .i64 (checkE t:Nat)])) w e w':=by
  obtain ⟨pi,ci,rfl⟩:=hV.init.len
  obtain ⟨pt,ct,rfl⟩:=hV.threads.len
  obtain ⟨pa,rfl,_⟩:=hV.ask.ptr
  have HX:=Lib.hid (show Boxed w t w.heap.size pi ci pt ct pa (w.alloc (.cells #[.slice pi t.init.length ci,.slice pt t.threads.length ct,.bool t.all,.pointer pa] 40)) from ⟨ht,(Below.refl _ w).alloc (Nat.le_refl _) _,hK,hV,Sits.new _ _ _⟩)
  simp only [testAgg]
  clear hV hK ht
  go_enter Tryz.func40,Tryz.ntmps40
  go_wp2_with fail
  generalize w.alloc (.cells #[.slice pi t.init.length ci,.slice pt t.threads.length ct,.bool t.all,.pointer pa] 40)=w1 at HX ⊢
  generalize hgb:w.heap.size=g at HX ⊢
  clear hgb
  refine (when_any 78 #[.pointer (some ⟨g,0,none⟩)] en1 1 (decide (t.threads.length=0)) w1 (fun W h=>ck1 (HX.out.below h))).mono ?_
  rintro e w2 ⟨p1,q1,rfl,ha1,hb⟩
  have HX2:=Lib.hid (HX.out.below hb)
  have HA1_2:=Lib.hid ha1
  clear hb ha1 HX
  go_wp2_with fail
  refine (when_any 79 #[.pointer (some ⟨g,0,none⟩)] en2 1 (!stsMay t.threads true) w2 (fun W h=>ck2 (HX2.out.below h))).mono ?_
  rintro e w3 ⟨p2,q2,rfl,ha2,hb⟩
  have HX3:=Lib.hid (HX2.out.below hb)
  have HA1_3:=Lib.hid (HA1_2.out.below hb)
  have HA2_3:=Lib.hid ha2
  clear hb ha2 HX2 HA1_2
  go_wp2_with fail
  refine (when_any 81 #[.pointer (some ⟨g,0,none⟩)] en3 1 (!startsF t.init noLet) w3 (fun W h=>ck3 (HX3.out.below h))).mono ?_
  rintro e w4 ⟨p3,q3,rfl,ha3,hb⟩
  have HX4:=Lib.hid (HX3.out.below hb)
  have HA1_4:=Lib.hid (HA1_3.out.below hb)
  have HA2_4:=Lib.hid (HA2_3.out.below hb)
  have HA3_4:=Lib.hid ha3
  clear hb ha3 HX3 HA1_3 HA2_3
  go_wp2_with fail
  refine (when_any 83 #[.pointer (some ⟨g,0,none⟩)] en4 1 (!exMay [0,2,3] t.ask) w4 (fun W h=>ck4 (HX4.out.below h))).mono ?_
  rintro e w5 ⟨p4,q4,rfl,ha4,hb⟩
  have HX5:=Lib.hid (HX4.out.below hb)
  have HA1_5:=Lib.hid (HA1_4.out.below hb)
  have HA2_5:=Lib.hid (HA2_4.out.below hb)
  have HA3_5:=Lib.hid (HA3_4.out.below hb)
  have HA4_5:=Lib.hid ha4
  clear hb ha4 HX4 HA1_4 HA2_4 HA3_4
  go_wp2_with fail
  refine (when_any 85 #[.pointer (some ⟨g,0,none⟩)] en5 4 (decide (4<t.threads.length)) w5 (fun W h=>ck5 (HX5.out.below h))).mono ?_
  rintro e w6 ⟨p5,q5,rfl,ha5,hb⟩
  have HX6:=Lib.hid (HX5.out.below hb)
  have HA1_6:=Lib.hid (HA1_5.out.below hb)
  have HA2_6:=Lib.hid (HA2_5.out.below hb)
  have HA3_6:=Lib.hid (HA3_5.out.below hb)
  have HA4_6:=Lib.hid (HA4_5.out.below hb)
  have HA5_6:=Lib.hid ha5
  clear hb ha5 HX5 HA1_5 HA2_5 HA3_5 HA4_5
  go_wp2_with fail
  refine (when_any 86 #[.pointer (some ⟨g,0,none⟩)] en6 4 (t.threads.any (fun b=>decide (8<b.deep))) w6 (fun W h=>ck6 (HX6.out.below h))).mono ?_
  rintro e w7 ⟨p6,q6,rfl,ha6,hb⟩
  have HX7:=Lib.hid (HX6.out.below hb)
  have HA1_7:=Lib.hid (HA1_6.out.below hb)
  have HA2_7:=Lib.hid (HA2_6.out.below hb)
  have HA3_7:=Lib.hid (HA3_6.out.below hb)
  have HA4_7:=Lib.hid (HA4_6.out.below hb)
  have HA5_7:=Lib.hid (HA5_6.out.below hb)
  have HA6_7:=Lib.hid ha6
  clear hb ha6 HX6 HA1_6 HA2_6 HA3_6 HA4_6 HA5_6
  go_wp2_with fail
  refine (when_any 89 #[.pointer (some ⟨g,0,none⟩)] en7 4 (decide (4<(locsF t).length)) w7 (fun W h=>ck7 (HX7.out.below h))).mono ?_
  rintro e w8 ⟨p7,q7,rfl,ha7,hb⟩
  have HX8:=Lib.hid (HX7.out.below hb)
  have HA1_8:=Lib.hid (HA1_7.out.below hb)
  have HA2_8:=Lib.hid (HA2_7.out.below hb)
  have HA3_8:=Lib.hid (HA3_7.out.below hb)
  have HA4_8:=Lib.hid (HA4_7.out.below hb)
  have HA5_8:=Lib.hid (HA5_7.out.below hb)
  have HA6_8:=Lib.hid (HA6_7.out.below hb)
  have HA7_8:=Lib.hid ha7
  clear hb ha7 HX7 HA1_7 HA2_7 HA3_7 HA4_7 HA5_7 HA6_7
  go_wp2_with fail
  refine (when_any 91 #[.pointer (some ⟨g,0,none⟩)] en8 7 (nobodyF t) w8 (fun W h=>ck8 (HX8.out.below h))).mono ?_
  rintro e w9 ⟨p8,q8,rfl,ha8,hb⟩
  have HX9:=Lib.hid (HX8.out.below hb)
  have HA1_9:=Lib.hid (HA1_8.out.below hb)
  have HA2_9:=Lib.hid (HA2_8.out.below hb)
  have HA3_9:=Lib.hid (HA3_8.out.below hb)
  have HA4_9:=Lib.hid (HA4_8.out.below hb)
  have HA5_9:=Lib.hid (HA5_8.out.below hb)
  have HA6_9:=Lib.hid (HA6_8.out.below hb)
  have HA7_9:=Lib.hid (HA7_8.out.below hb)
  have HA8_9:=Lib.hid ha8
  clear hb ha8 HX8 HA1_8 HA2_8 HA3_8 HA4_8 HA5_8 HA6_8 HA7_8
  go_wp2_with fail
  have hb10:Below w9.heap.size w9 (w9.alloc (.cells #[.func (.func 138) #[] #[p1,q1],.func (.func 138) #[] #[p2,q2],.func (.func 138) #[] #[p3,q3],.func (.func 138) #[] #[p4,q4],.func (.func 138) #[] #[p5,q5],.func (.func 138) #[] #[p6,q6],.func (.func 138) #[] #[p7,q7],.func (.func 138) #[] #[p8,q8]] 177)):=(Below.refl _ w9).alloc (Nat.le_refl _) _
  have HX10:=Lib.hid (HX9.out.below hb10)
  have HF:=Lib.hid (first_any (answers t) w9.heap.size [.func (.func 138) #[] #[p1,q1],.func (.func 138) #[] #[p2,q2],.func (.func 138) #[] #[p3,q3],.func (.func 138) #[] #[p4,q4],.func (.func 138) #[] #[p5,q5],.func (.func 138) #[] #[p6,q6],.func (.func 138) #[] #[p7,q7],.func (.func 138) #[] #[p8,q8]] (w9.alloc (.cells #[.func (.func 138) #[] #[p1,q1],.func (.func 138) #[] #[p2,q2],.func (.func 138) #[] #[p3,q3],.func (.func 138) #[] #[p4,q4],.func (.func 138) #[] #[p5,q5],.func (.func 138) #[] #[p6,q6],.func (.func 138) #[] #[p7,q7],.func (.func 138) #[] #[p8,q8]] 177)) (by simp [answers]) rfl (Sits.new _ _ _) (by
    intro i u r hu hr
    rcases i with _ | _ | _ | _ | _ | _ | _ | _ | i
    · obtain rfl:=Option.some.inj hu;obtain rfl:=Option.some.inj hr;exact HA1_9.out.below hb10
    · obtain rfl:=Option.some.inj hu;obtain rfl:=Option.some.inj hr;exact HA2_9.out.below hb10
    · obtain rfl:=Option.some.inj hu;obtain rfl:=Option.some.inj hr;exact HA3_9.out.below hb10
    · obtain rfl:=Option.some.inj hu;obtain rfl:=Option.some.inj hr;exact HA4_9.out.below hb10
    · obtain rfl:=Option.some.inj hu;obtain rfl:=Option.some.inj hr;exact HA5_9.out.below hb10
    · obtain rfl:=Option.some.inj hu;obtain rfl:=Option.some.inj hr;exact HA6_9.out.below hb10
    · obtain rfl:=Option.some.inj hu;obtain rfl:=Option.some.inj hr;exact HA7_9.out.below hb10
    · obtain rfl:=Option.some.inj hu;obtain rfl:=Option.some.inj hr;exact HA8_9.out.below hb10
    · simp at hu))
  rw [answers_first] at HF
  clear hb10 HA1_9 HA2_9 HA3_9 HA4_9 HA5_9 HA6_9 HA7_9 HA8_9 HX9
  refine HF.out.mono ?_
  rintro e w11 ⟨rfl,hb⟩
  have HX11:=Lib.hid (HX10.out.below hb)
  clear hb HX10 HF
  have HL:=Lib.hid (show checkL t=if checkE t=0 then locsF t else [] from rfl)
  obtain ⟨ce,hce⟩:∃ ce,ce=checkE t:=⟨_,rfl⟩
  obtain ⟨cl,hcl⟩:∃ cl,cl=checkL t:=⟨_,rfl⟩
  have HCE:=Lib.hid hce
  have HCL:=Lib.hid hcl
  rw [<- hce,<- hcl] at HL
  clear hcl
  rw [<- hce]
  clear hce
  by_cases h0:ce=0
  · subst h0
    rw [if_pos rfl] at HL
    have q0:=HX11.out.box.cell 0
    have q1:=HX11.out.box.cell 1
    have q2:=HX11.out.box.cell 2
    have q3:=HX11.out.box.cell 3
    have lg:=HX11.out.box.lt
    have HS:=Lib.hid (locations_any t HX11.out.small _ _ _ w11 (HX11.out.v.below HX11.out.low))
    have HLW:=Lib.hid HX11.out.low
    simp only [testAgg] at HS
    rw [<- HL.out] at HS
    clear HX11
    go_wp2_with fail
    refine HS.out.mono ?_
    rintro e w12 ⟨rfl,hb⟩
    have HB:=Lib.hid (HLW.out.trans (hb.mono HLW.out.size))
    clear hb q0 q1 q2 q3 lg
    go_wp2_with fail
    exact bodyPost_ret (v:=.tuple #[.string (str cl),.int .i64 ((0:Nat):Int)]) (by simp [results,Tryz.results40,go_sem]) rfl ⟨by rw [HCE.out,HCL.out],HB.out⟩
  · rw [if_neg h0] at HL
    have n1:((ce:Int) == 0)=false:=beq_eq_false_iff_ne.2 (by omega)
    have n2:((ce:Int) != 0)=true:=bne_iff_ne.2 (by omega)
    have HLW:=Lib.hid HX11.out.low
    clear h0 HX11
    go_wp2_with fail
    exact bodyPost_ret (v:=.tuple #[.string (str cl),.int .i64 (ce:Int)]) (by rw [HL.out];simp [results,Tryz.results40,go_sem,str]) rfl ⟨by rw [HCE.out,HCL.out],HLW.out⟩
end Go.Proofs.YtagebkachdmnbaaGreatDoor.Chk
end
