/- Part 38 of the proof: what is used of the texts StmI. -/
import Derived.Test.YtbkdappgmcebaaaGreatDoorKC6
import Derived.Test.YtbkdappgmcebaaaGreatDoorKA8
import Derived.Test.YtbkdappgmcebaaaGreatDoorKA4
import Derived.Test.YtbkdappgmcebaaaGreatDoorKA6
section
namespace Go.Proofs.YtbkdappgmcebaaaGreatDoor.Prog
open Go.RowKit Go.Proofs.YtbkdappgmcebaaaGreatDoor.Mem Go.Proofs.YtbkdappgmcebaaaGreatDoor.Expr Go.Lib
theorem sameO (a b:Option Ex) (ha:okO a) (h:a.isSome=true \/ b.isSome=true):(fitsF (trO a) 12 && decide (trO a=trO b))=decide (a=b):=by
  cases a with
  | none =>
    cases b with
    | none=>simp at h
    | some f=>simp [trO,fitsF]
  | some e =>
    have hf:fitsF (trO (some e)) 12=true:=fits_of e ha.1 12 ha.2
    rw [hf,Bool.true_and]
    by_cases he:some e=b
    · rw [he];simp
    · rw [decide_eq_false he,decide_eq_false (fun h=>he (trO_inj h))]
set_option maxRecDepth 100000 in
theorem sameExpr_any (a b:Option Ex) (ha:okO a) (u v:Value) (w:World) (hu:Tree w (trO a) u) (hv:Tree w (trO b) v):Calls Tryz.prog 32 #[u,v] w fun e w'=>Made (.returned (.bool (decide (a=b)))) w e w':=by
  by_cases h:a.isSome=true \/ b.isSome=true
  · have HS:=Lib.hid (sameO a b ha h ▸ Same_any (trO a) (trO b) u v w hu hv)
    generalize decide (a=b)=r at HS ⊢
    cases a with
    | none =>
      cases b with
      | none=>simp at h
      | some f =>
        obtain rfl:u = .pointer none:=hu
        obtain ⟨p,rfl,hp⟩:=hv.ptr
        have hp':p.isNone=false:=by rw [hp];cases f <;> rfl
        obtain ⟨q,rfl⟩:=Option.ne_none_iff_exists'.1 (show p≠none from fun e=>by rw [e] at hp';cases hp')
        clear hv h hp hp'
        go_enter Tryz.func32,Tryz.ntmps32
        go_wp2_with fail
        refine HS.out.mono ?_
        rintro e w1 ⟨rfl,hb⟩
        have HB:=Lib.hid hb
        clear hb
        go_wp2_with fail
        go_ret
        exact ⟨rfl,HB.out⟩
    | some f =>
      obtain ⟨p,rfl,hp⟩:=hu.ptr
      obtain ⟨q',rfl,_⟩:=hv.ptr
      have hp':p.isNone=false:=by rw [hp];cases f <;> rfl
      obtain ⟨q,rfl⟩:=Option.ne_none_iff_exists'.1 (show p≠none from fun e=>by rw [e] at hp';cases hp')
      clear hu hv h hp hp'
      go_enter Tryz.func32,Tryz.ntmps32
      go_wp2_with fail
      refine HS.out.mono ?_
      rintro e w1 ⟨rfl,hb⟩
      have HB:=Lib.hid hb
      clear hb
      go_wp2_with fail
      go_ret
      exact ⟨rfl,HB.out⟩
  · have ea:a=none:=by cases a <;> simp at h ⊢
    have eb:b=none:=by cases b <;> simp at h ⊢
    subst ea eb
    obtain rfl:u = .pointer none:=hu
    obtain rfl:v = .pointer none:=hv
    clear h
    show Calls _ _ _ _ fun e w'=>Made (.returned (.bool true)) w e w'
    go_enter Tryz.func32,Tryz.ntmps32
    go_wp2_with fail
    go_ret
    exact ⟨rfl,Below.refl _ _⟩
structure SEnv (w:World) (sB stB mB:Nat):Prop where
  s:Sits w sB 89 #[.func (.func 95) #[] #[.pointer (some ⟨mB,0,none⟩),.pointer (some ⟨stB,0,none⟩)]]
  st:Sits w stB 151 #[.func (.func 94) #[] #[.pointer (some ⟨sB,0,none⟩)]]
theorem SEnv.below {w w':World} {sB stB mB:Nat} (h:SEnv w sB stB mB) (hb:Below w.heap.size w w'):SEnv w' sB stB mB:=⟨h.s.below hb h.s.lt,h.st.below hb h.st.lt⟩
theorem same1_enters:Expr.Enters 94:=enters_of Tryz.func94 (by kernel_rfl) rfl
theorem same2_enters:Expr.Enters 95:=enters_of Tryz.func95 (by kernel_rfl) rfl
def SameIs (sB stB mB:Nat) (a b:Blk) (r:Bool):Prop:=∀ (u v:Value) (w:World),SEnv w sB stB mB->Stand any_ w a u->Stand any_ w b v ->
  Calls Tryz.prog 95 #[u,v,.pointer (some ⟨mB,0,none⟩),.pointer (some ⟨stB,0,none⟩)] w fun e w'=>Made (.returned (.bool r)) w e w'
def mkEq (m n:Mk):Bool:=decide (m.kind=n.kind) && decide (m.reg=n.reg) && decide (m.mode=n.mode) && decide (m.loc=n.loc) && decide (m.a=n.a) && decide (m.b=n.b)
theorem mkEq_iff (m n:Mk) (t t' e e':Blk):(mkEq m n && decide (t=t') && decide (e=e'))=decide (m=n/\t=t' /\ e=e'):=by
  obtain ⟨k,r,mo,x,a,b⟩:=m
  obtain ⟨k',r',mo',x',a',b'⟩:=n
  rw [Bool.eq_iff_iff]
  simp only [mkEq,Bool.and_eq_true,decide_eq_true_eq,Mk.mk.injEq,and_assoc]
def twoSt (w:World) (m n:Mk) (pa pb pa' pb':Option Addr) (tv ev tv' ev':Value):World :=
  (w.alloc (.cells #[.int .u8 m.kind,.int .u8 m.reg,.int .u8 m.mode,.int .u8 m.loc,.pointer pa,.pointer pb,tv,ev] 150)).alloc (.cells #[.int .u8 n.kind,.int .u8 n.reg,.int .u8 n.mode,.int .u8 n.loc,.pointer pa',.pointer pb',tv',ev'] 150)
structure Two (w0:World) (sB stB mB g1 g2:Nat) (c1 c2:Array Value) (t e t' e':Blk) (tv ev tv' ev':Value) (a b a' b':Option Ex) (va vb va' vb':Value) (W:World):Prop where
  env:SEnv W sB stB mB
  s1:Sits W g1 150 c1
  s2:Sits W g2 150 c2
  t:Stand any_ W t tv
  e:Stand any_ W e ev
  t':Stand any_ W t' tv'
  e':Stand any_ W e' ev'
  a:Tree W (trO a) va
  b:Tree W (trO b) vb
  a':Tree W (trO a') va'
  b':Tree W (trO b') vb'
  low:Below w0.heap.size w0 W
section
variable {w0 : World} {sB stB mB g1 g2 : Nat} {c1 c2 : Array Value} {t e t' e' : Blk} {tv ev tv' ev' : Value} {a b a' b' : Option Ex} {va vb va' vb' : Value} {W W' : World}
theorem Two.grown (h:Two w0 sB stB mB g1 g2 c1 c2 t e t' e' tv ev tv' ev' a b a' b' va vb va' vb' W) (hb:Below W.heap.size W W'):Two w0 sB stB mB g1 g2 c1 c2 t e t' e' tv ev tv' ev' a b a' b' va vb va' vb' W' :=
  ⟨h.env.below hb,h.s1.below hb h.s1.lt,h.s2.below hb h.s2.lt,h.t.below hb,h.e.below hb,h.t'.below hb,h.e'.below hb,h.a.below hb,h.b.below hb,h.a'.below hb,h.b'.below hb,h.low.trans (hb.mono h.low.size)⟩
end
set_option maxRecDepth 100000 in
set_option maxHeartbeats 2000000 in
theorem same1_any (m n:Mk) (t e t' e':Blk) (oa:okO m.a) (ob:okO m.b) (pa pb pa' pb':Option Addr) (tv ev tv' ev':Value) (w:World) (sB stB mB:Nat) (hE:SEnv w sB stB mB)
    (ht:Stand any_ w t tv) (he:Stand any_ w e ev) (ht':Stand any_ w t' tv') (he':Stand any_ w e' ev') (ha:Tree w (trO m.a) (.pointer pa)) (hb:Tree w (trO m.b) (.pointer pb)) (ha':Tree w (trO n.a) (.pointer pa')) (hb':Tree w (trO n.b) (.pointer pb'))
    (rt re:Bool) (HT:SameIs sB stB mB t t' rt) (HEE:SameIs sB stB mB e e' re) :
    Calls Tryz.prog 94 #[stAgg m (.pointer pa) (.pointer pb) tv ev,stAgg n (.pointer pa') (.pointer pb') tv' ev',.pointer (some ⟨sB,0,none⟩)] w fun e w'=>Made (.returned (.bool (mkEq m n && rt && re))) w e w':=by
  have hlow:Below w.heap.size w (twoSt w m n pa pb pa' pb' tv ev tv' ev'):=((Below.refl _ _).alloc (Nat.le_refl _) _).alloc (by simp) _
  have H0:Two w sB stB mB w.heap.size (w.heap.size+1) #[.int .u8 m.kind,.int .u8 m.reg,.int .u8 m.mode,.int .u8 m.loc,.pointer pa,.pointer pb,tv,ev] #[.int .u8 n.kind,.int .u8 n.reg,.int .u8 n.mode,.int .u8 n.loc,.pointer pa',.pointer pb',tv',ev']
      t e t' e' tv ev tv' ev' m.a m.b n.a n.b (.pointer pa) (.pointer pb) (.pointer pa') (.pointer pb') (twoSt w m n pa pb pa' pb' tv ev tv' ev') :=
    ⟨hE.below hlow,(Sits.new _ _ _).alloc _,Sits.made (by simp) _ _,ht.below hlow,he.below hlow,ht'.below hlow,he'.below hlow,ha.below hlow,hb.below hlow,ha'.below hlow,hb'.below hlow,hlow⟩
  have HA:=Lib.hid (fun (u v:Value) (W:World) (h1:Tree W (trO m.a) u) (h2:Tree W (trO n.a) v)=>sameExpr_any m.a n.a oa u v W h1 h2)
  have HB:=Lib.hid (fun (u v:Value) (W:World) (h1:Tree W (trO m.b) u) (h2:Tree W (trO n.b) v)=>sameExpr_any m.b n.b ob u v W h1 h2)
  have H0':=Lib.hid H0
  have HTT:=Lib.hid HT
  have HRR:=Lib.hid HEE
  have hen:=same2_enters
  unfold Expr.Enters at hen
  have c0:=H0.s1.cell 0
  obtain ⟨pt,ct,rfl,_⟩:=ht.len
  obtain ⟨pe,ce,rfl,_⟩:=he.len
  obtain ⟨pt',ct',rfl,_⟩:=ht'.len
  obtain ⟨pe',ce',rfl,_⟩:=he'.len
  have e1:=nat_beq m.kind n.kind
  have e2:=nat_beq m.reg n.reg
  have e3:=nat_beq m.mode n.mode
  have e4:=nat_beq m.loc n.loc
  have lsb:=hE.s.lt
  clear H0 hlow hE ht he ht' he' ha hb ha' hb' HT HEE oa ob c0
  unfold mkEq stAgg
  generalize decide (m.kind=n.kind)=r1 at e1 ⊢
  generalize decide (m.reg=n.reg)=r2 at e2 ⊢
  generalize decide (m.mode=n.mode)=r3 at e3 ⊢
  generalize decide (m.loc=n.loc)=r4 at e4 ⊢
  generalize decide (m.a=n.a)=r5 at HA ⊢
  generalize decide (m.b=n.b)=r6 at HB ⊢
  cases r1
  · simp only [Bool.false_and]
    go_enter Tryz.func94,Tryz.ntmps94
    go_wp2_with fail
    go_ret
    exact ⟨rfl,H0'.out.low⟩
  cases r2
  · simp only [Bool.false_and,Bool.and_false]
    go_enter Tryz.func94,Tryz.ntmps94
    go_wp2_with fail
    go_ret
    exact ⟨rfl,H0'.out.low⟩
  cases r3
  · simp only [Bool.false_and,Bool.and_false]
    go_enter Tryz.func94,Tryz.ntmps94
    go_wp2_with fail
    go_ret
    exact ⟨rfl,H0'.out.low⟩
  cases r4
  · simp only [Bool.false_and,Bool.and_false]
    go_enter Tryz.func94,Tryz.ntmps94
    go_wp2_with fail
    go_ret
    exact ⟨rfl,H0'.out.low⟩
  go_enter Tryz.func94,Tryz.ntmps94
  go_wp2_with fail
  change Calls _ _ _ (twoSt w m n pa pb pa' pb' _ _ _ _) _
  generalize twoSt w m n pa pb pa' pb' _ _ _ _=wa at H0' ⊢
  refine (HA.out _ _ _ H0'.out.a H0'.out.a').mono ?_
  rintro e' w1 ⟨rfl,hb⟩
  have H1:=Lib.hid (H0'.out.grown hb)
  have d1:=H1.out.s1.cell 5
  have d2:=H1.out.s2.cell 5
  have l1:=H1.out.s1.lt
  have l2:=H1.out.s2.lt
  clear hb
  cases r5
  · go_wp2_with fail
    go_ret
    exact ⟨rfl,H1.out.low⟩
  go_wp2_with fail
  refine (HB.out _ _ _ H1.out.b H1.out.b').mono ?_
  rintro e' w2 ⟨rfl,hb⟩
  have H2:=Lib.hid (H1.out.grown hb)
  have d3:=H2.out.env.s.cell 0
  have d1:=H2.out.s1.cell 6
  have d2:=H2.out.s2.cell 6
  have l1:=H2.out.s1.lt
  have l2:=H2.out.s2.lt
  have l3:=H2.out.env.s.lt
  clear hb
  cases r6
  · go_wp2_with fail
    go_ret
    exact ⟨rfl,H2.out.low⟩
  go_wp2_with fail
  refine (HTT.out _ _ _ H2.out.env H2.out.t H2.out.t').mono ?_
  rintro e' w3 ⟨rfl,hb⟩
  have H3:=Lib.hid (H2.out.grown hb)
  have d3:=H3.out.env.s.cell 0
  have d1:=H3.out.s1.cell 7
  have d2:=H3.out.s2.cell 7
  have l1:=H3.out.s1.lt
  have l2:=H3.out.s2.lt
  have l3:=H3.out.env.s.lt
  clear hb
  cases rt
  · go_wp2_with fail
    go_ret
    exact ⟨rfl,H3.out.low⟩
  go_wp2_with fail
  refine (HRR.out _ _ _ H3.out.env H3.out.e H3.out.e').mono ?_
  rintro e' w4 ⟨rfl,hb⟩
  have H4:=Lib.hid (H3.out.grown hb)
  clear hb d1 d2 d3
  go_wp2_with fail
  go_ret
  exact ⟨ret_bool (by simp),H4.out.low⟩
theorem app_inj:∀ (q r r':Blk),q.app r=q.app r' ↔ r=r':=by
  intro q
  induction q with
  | nil=>intro r r';exact Iff.rfl
  | cons m t e q _ _ ih=>intro r r';simp only [Blk.app,Blk.cons.injEq,true_and];exact ih r r'
set_option maxRecDepth 100000 in
set_option maxHeartbeats 2000000 in
theorem equal_st (a b:Blk) (hlen:a.len=b.len) (fa:a.fine) (u v:Value) (w:World) (sB stB mB:Nat) (hE:SEnv w sB stB mB) (ha:Stand any_ w a u) (hb:Stand any_ w b v)
    (IH:∀ c d:Blk,c.size<a.size->c.fine->c.over 8=false->SameIs sB stB mB c d (decide (c=d))) (hov:a.over 8=false) :
    Calls Tryz.prog 98 #[u,v,.func (.func 94) #[] #[.pointer (some ⟨sB,0,none⟩)]] w fun e w'=>Made (.returned (.bool (decide (a=b)))) w e w':=by
  obtain ⟨p,cap,rfl,hl,hr⟩:=ha.rests
  obtain ⟨p',cap',rfl,hl',hr'⟩:=hb.rests
  have HR:=Lib.hid hr
  have HR':=Lib.hid hr'
  have HIH:=Lib.hid IH
  have HEN:=Lib.hid hE
  have HF:=Lib.hid fa
  have HOV:=Lib.hid hov
  have HLL:=Lib.hid hlen
  have hen:=same1_enters
  unfold Expr.Enters at hen
  have i1:(a.len:Int)<=1000000:=by omega
  rw [<- hlen]
  clear ha hb IH hr hr' hl hl' hE fa hov hlen
  go_enter Tryz.func98,Tryz.ntmps98
  go_wp2_with fail
  go_loopg [17] a.len (fun gg v17 wx=>∃ (q r r':Blk),gg=r.len/\a.len=q.len+r.len/\v17 = .int .i64 (q.len:Nat)/\Hid (a=q.app r)/\Hid (b=q.app r')/\Hid (Rests w p a.len r q.len)/\Hid (Rests w p' b.len r' q.len)/\Hid (Below w.heap.size w wx))
  case atStart=>exact ⟨Blk.nil,a,b,rfl,by simp [Blk.len],rfl,Lib.hid rfl,Lib.hid rfl,HR,HR',Lib.hid (Below.refl _ _)⟩
  case round =>
    obtain ⟨q,r,r',rfl,hlen,rfl,HE,HE',HRr,HRr',HB⟩:=hrel
    cases r with
    | nil =>
      have e:a.len=q.len:=by simpa [Blk.len] using hlen
      have hr0:r' = .nil:=Blk.len_zero (by
        have h1:=HLL.out
        have h2:=congrArg Blk.len HE'.out
        rw [Blk.len_app] at h2;omega)
      have HEq:=Lib.hid (show a=b by rw [HE.out,HE'.out,hr0])
      have i4:¬ ((q.len:Int)<(a.len:Int)):=by omega
      clear e hlen hr0
      go_wp2_with fail
      go_ret
      exact ⟨ret_bool (by rw [HEq.out];simp),HB.out⟩
    | cons m t e r =>
      cases r' with
      | nil =>
        exfalso
        have h1:=HLL.out
        have h2:=congrArg Blk.len HE'.out
        rw [Blk.len_app] at h2
        simp only [Blk.len] at h2 hlen
        omega
      | cons m' t' e' r' =>
        obtain ⟨g,o,rfl,hk,hr',av,bv,tv,ev,hst,hta,htb,hst1,hst2⟩:=HRr.out.next
        obtain ⟨g',o',rfl,hk',hr2,av',bv',tv',ev',hst',hta',htb',hst1',hst2'⟩:=HRr'.out.next
        obtain ⟨oa,ob,hr256,hmo,hlo,hki,ft,fe,fr⟩:=Blk.fine_app (HE.out ▸ HF.out)
        obtain ⟨pa,rfl,_⟩:=hta.ptr
        obtain ⟨pb,rfl,_⟩:=htb.ptr
        obtain ⟨pa',rfl,_⟩:=hta'.ptr
        obtain ⟨pb',rfl,_⟩:=htb'.ptr
        have HNX:=Lib.hid hr'
        have HNX':=Lib.hid hr2
        have hsz:t.size<a.size/\e.size<a.size:=by rw [HE.out,Blk.size_app];simp only [Blk.size];omega
        have hovs:t.over 8=false/\e.over 8=false:=by
          have h:=HOV.out
          rw [HE.out,over_app q _ 7] at h
          simp only [Blk.over,Bool.or_eq_false_iff] at h
          exact ⟨over_mono t 7 8 (by omega) h.2.1.1,over_mono e 7 8 (by omega) h.2.1.2⟩
        have HD1:=Lib.hid (fun W (h:Below wr.heap.size wr W)=>same1_any m m' t e t' e' oa ob pa pb pa' pb' tv ev tv' ev' W sB stB mB ((HEN.out.below HB.out).below h)
          ((hst1.below HB.out).below h) ((hst2.below HB.out).below h) ((hst1'.below HB.out).below h) ((hst2'.below HB.out).below h) ((hta.below HB.out).below h) ((htb.below HB.out).below h) ((hta'.below HB.out).below h) ((htb'.below HB.out).below h)
          (decide (t=t')) (decide (e=e')) (HIH.out t t' hsz.1 ft hovs.1) (HIH.out e e' hsz.2 fe hovs.2))
        obtain ⟨c0,c1,c2,c3,c4,c5,c6,c7⟩:=hst.low HB.out
        obtain ⟨d0,d1,d2,d3,d4,d5,d6,d7⟩:=hst'.low HB.out
        have lg:=World.block_lt_of_cell? _ _ c0
        have lg':=World.block_lt_of_cell? _ _ d0
        obtain ⟨pt,ct,rfl,_⟩:=hst1.len
        obtain ⟨pe,ce,rfl,_⟩:=hst2.len
        obtain ⟨pt',ct',rfl,_⟩:=hst1'.len
        obtain ⟨pe',ce',rfl,_⟩:=hst2'.len
        have HEs:=Lib.hid (show a=(q.snoc m t e).app r by rw [HE.out,Blk.snoc_app])
        have lq:(q.len:Int)<(a.len:Int):=by omega
        have lq2:(q.len:Int)<(b.len:Int):=by omega
        have lq0:(0:Int)<=(q.len:Int):=by omega
        have HLN:=Lib.hid (show a.len=(q.snoc m t e).len+r.len by rw [Blk.len_snoc];simp only [Blk.len] at hlen;omega)
        have HBE:=Lib.hid (show (mkEq m m' && decide (t=t') && decide (e=e'))=true->m=m' /\ t=t' /\ e=e' from fun h=>by rw [mkEq_iff] at h;exact of_decide_eq_true h)
        have HBN:=Lib.hid (show (mkEq m m' && decide (t=t') && decide (e=e'))=false->a≠b from fun h hab=>by
          rw [mkEq_iff] at h
          rw [HE.out,HE'.out] at hab
          have:=(app_inj q _ _).1 hab
          injection this with h1 h2 h3 h4
          exact of_decide_eq_false h ⟨h1,h2,h3⟩)
        have eL:b.len=a.len:=HLL.out.symm
        have hb2:Below wr.heap.size wr (twoSt wr m m' pa pb pa' pb' (.slice pt t.len ct) (.slice pe e.len ce) (.slice pt' t'.len ct') (.slice pe' e'.len ce')):=((Below.refl _ _).alloc (Nat.le_refl _) _).alloc (by simp) _
        have HB2:=Lib.hid hb2
        clear hst hta htb hst1 hst2 hr' hlen hst' hta' htb' hst1' hst2' hr2 hsz hovs ft fe fr oa ob eL hb2
        unfold stAgg at HD1
        generalize (mkEq m m' && decide (t=t') && decide (e=e'))=r0 at HD1 HBE HBN
        go_wp2_with fail
        change Calls _ _ _ (twoSt wr m m' pa pb pa' pb' (.slice pt t.len ct) (.slice pe e.len ce) (.slice pt' t'.len ct') (.slice pe' e'.len ce')) _
        generalize twoSt wr m m' pa pb pa' pb' (.slice pt t.len ct) (.slice pe e.len ce) (.slice pt' t'.len ct') (.slice pe' e'.len ce')=wa at HB2 ⊢
        refine (HD1.out wa HB2.out).mono ?_
        rintro e'' w2 ⟨rfl,hb⟩
        have HB3:=Lib.hid ((HB.out.trans (HB2.out.mono HB.out.size)).trans (hb.mono (Nat.le_trans HB.out.size HB2.out.size)))
        clear hb
        cases r0
        · go_wp2_with fail
          go_ret
          exact ⟨ret_bool (by rw [decide_eq_false (HBN.out (by trivial))]),HB3.out⟩
        · go_wp2_with fail
          go_roundg r.len
          case measure=>simp [Blk.len]
          case rel=>exact ⟨q.snoc m t e,r,r',rfl,HLN.out,val_len q m t e,HEs,Lib.hid (by obtain ⟨rfl,rfl,rfl⟩:=HBE.out (by trivial);rw [HE'.out,Blk.snoc_app]),Lib.hid (by rw [Blk.len_snoc];exact HNX.out),Lib.hid (by rw [Blk.len_snoc];exact HNX'.out),HB3⟩
set_option maxRecDepth 100000 in
theorem same2_any (sB stB mB:Nat):∀ (n:Nat) (a:Blk),a.size<n->a.fine->a.over 8=false->∀ b:Blk,SameIs sB stB mB a b (decide (a=b)):=by
  intro n
  induction n with
  | zero=>intro a h;omega
  | succ n ih =>
    intro a ha hf hov b u v w hE hu hv
    have HD:=Lib.hid (show DeepIs a 8 false from hov ▸ deeper_any (a.size+1) a (by omega) 8 (by omega))
    have HU:=Lib.hid hu
    have HEN:=Lib.hid hE
    have HQ:=Lib.hid (fun (hl:a.len=b.len) (W:World) (h:Below w.heap.size w W)=>equal_st a b hl hf u v W sB stB mB (hE.below h) (hu.below h) (hv.below h) (fun c d hc hcf hco=>ih c (by omega) hcf hco d) hov)
    obtain ⟨p,cap,rfl,hl⟩:=hu.len
    obtain ⟨p',cap',rfl,hl'⟩:=hv.len
    have i1:(a.len:Int)<=1000000:=by omega
    have i2:(b.len:Int)<=1000000:=by omega
    have HNE:=Lib.hid (show a.len≠b.len->decide (a=b)=false from fun h=>decide_eq_false fun e=>h (by rw [e]))
    have en:=nat_beq a.len b.len
    by_cases hll:a.len=b.len
    · have HQ2:=Lib.hid (HQ.out hll)
      rw [<- hll] at HQ2 ⊢
      rw [<- hll] at en
      clear hE hu hv hl hl' HQ hll HNE i2 en
      go_enter Tryz.func95,Tryz.ntmps95
      go_wp2_with fail
      refine (HD.out _ _ HU.out).mono ?_
      rintro e w1 ⟨rfl,hb⟩
      have HB1:=Lib.hid hb
      have d3:=(HEN.out.below hb).st.cell 0
      have l3:=(HEN.out.below hb).st.lt
      clear hb
      go_wp2_with fail
      refine (HQ2.out _ HB1.out).mono ?_
      rintro e w2 ⟨rfl,hb⟩
      have HB2:=Lib.hid (HB1.out.trans (hb.mono HB1.out.size))
      clear hb d3
      go_wp2_with fail
      go_ret
      exact ⟨rfl,HB2.out⟩
    · have HNE2:=Lib.hid (HNE.out hll)
      rw [decide_eq_false hll] at en
      have en':((a.len:Int) != (b.len:Int))=true:=by rw [bne,en];rfl
      have ne:¬ ((a.len:Int)=(b.len:Int)):=by omega
      clear hE hu hv hl hl' HQ hll HNE
      go_enter Tryz.func95,Tryz.ntmps95
      go_wp2_with fail
      go_ret
      exact ⟨ret_bool (by rw [HNE2.out]),Below.refl _ _⟩
end Go.Proofs.YtbkdappgmcebaaaGreatDoor.Prog
end
