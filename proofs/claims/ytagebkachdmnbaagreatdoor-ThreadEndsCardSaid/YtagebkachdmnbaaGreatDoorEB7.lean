/- Part 18 of the proof: what is used of the texts ChkF. -/
import Derived.Test.YtagebkachdmnbaaGreatDoorEB6
import Derived.Test.YtagebkachdmnbaaGreatDoorEA8
section
namespace Go.Proofs.YtagebkachdmnbaaGreatDoor.Chk
open Go.RowKit Go.Proofs.YtagebkachdmnbaaGreatDoor.Mem Go.Proofs.YtagebkachdmnbaaGreatDoor.Expr Go.Proofs.YtagebkachdmnbaaGreatDoor.Prog Go.Proofs.YtagebkachdmnbaaGreatDoor.Flow Go.Lib
set_option maxRecDepth 100000 in
theorem fits_any (h m z:Bool) (w:World):Calls Tryz.prog 212 #[.bool h,.bool m,.bool z] w fun e w'=>e = .returned (.bool (fitB h m z))/\w=w':=by
  cases h
  all_goals
    go_enter Tryz.func212,Tryz.ntmps212
    go_wp2_with fail
    go_ret
    exact ⟨rfl,rfl⟩
def KindAt (w:World):Prop:=0<w.heap.size/\∀ k i:Nat,k<10->i<7->w.cell? ⟨0,k * 7+i,none⟩=some (.bool (has k i))
theorem KindAt.below {w w':World} (h:KindAt w) (hb:Below w.heap.size w w'):KindAt w' :=
  ⟨Nat.lt_of_lt_of_le h.1 hb.size,fun k i hk hi=>(hb.cell (p:=⟨0,k * 7+i,none⟩) h.1).trans (h.2 k i hk hi)⟩
theorem ptr_nil (p:Option Addr) (W:World):(binOp .eql 31 (.pointer p) (.pointer none)).run Tryz.prog W = .ok (.bool p.isNone) W:=by
  cases p <;> kernel_rfl
theorem modesOf_len (k:Nat):(modesOf k).length<=4:=by
  unfold modesOf
  repeat' split
  all_goals decide
def smallV (l:List Nat):Value->World->Prop:=fun u W=>∃ p n c,Small W (.slice p n c) l/\u = .slice p n c
theorem smallV_mono (l:List Nat):Mono (smallV l):=fun _ _ _ ⟨p,n,c,h1,h2⟩ hb=>⟨p,n,c,small_below h1 hb,h2⟩
theorem isLoc_made (x:Nat) (W:World):Calls Tryz.prog 142 #[.int .u8 (x:Nat)] W fun e' W'=>e' = .returned (.bool (isLoc x))/\Below W.heap.size W W' :=
  (isLoc_any x W).mono fun _ _ ⟨h1,h2⟩=>⟨h1,h2 ▸ Below.refl _ _⟩
theorem cont_made {l:List Nat} {v:Value} {W:World} (x:Nat) (h:Small W v l) (hl:l.length<=1000):Calls Tryz.prog 148 #[v,.int .u8 (x:Nat)] W fun e' W'=>e' = .returned (.bool (l.contains x))/\Below W.heap.size W W' :=
  (contains_any l x v W h hl).mono fun _ _ ⟨h1,h2⟩=>⟨h1,h2 ▸ Below.refl _ _⟩
def gV:Bool->(Value->World->Prop)->Value->World->Prop
  | true,p=>p
  | false,_=>fun u _=>u=undef
theorem gV_mono {p:Value->World->Prop} (c:Bool) (h:Mono p):Mono (gV c p):=by
  cases c with
  | true=>exact h
  | false=>exact fun _ _ _ h _=>h
theorem fit_made {h m z r:Bool} (W:World) (e:fitB h m z=r):Calls Tryz.prog 212 #[.bool h,.bool m,.bool z] W fun e' W'=>e' = .returned (.bool r)/\Below W.heap.size W W' :=
  (fits_any h m z W).mono fun _ _ ⟨h1,h2⟩=>⟨by rw [h1,e],h2 ▸ Below.refl _ _⟩
theorem stMay_parts {m:Mk} (h1:1<=m.kind) (h2:m.kind<=9) (nt ne:Nat):stMay m nt ne=(fitB (has m.kind 0) (decide (m.reg<8)) (decide (m.reg=0)) && fitB (has m.kind 1) (isLoc m.loc) (decide (m.loc=0)) && fitB (has m.kind 2) ((modesOf m.kind).contains m.mode) (decide (m.mode=0)) &&
    fitB (has m.kind 3) (exMay [0,1] m.a) (!m.a.isSome) && fitB (has m.kind 4) (exMay [0,1] m.b) (!m.b.isSome) && fitB (has m.kind 5) true (decide (nt=0)) && fitB (has m.kind 6) true (decide (ne=0))):=by
  simp [stMay,h1,h2]
theorem int_dec0 (n:Nat):((n:Int) == 0)=decide (n=0):=by
  by_cases h:n=0
  · subst h;rfl
  · rw [decide_eq_false h];exact beq_eq_false_iff_ne.2 (by omega)
theorem int_dec8 (n:Nat):decide ((n:Int)<8)=decide (n<8):=by
  by_cases h:n<8
  · rw [decide_eq_true h,decide_eq_true (show (n:Int)<8 by omega)]
  · rw [decide_eq_false h,decide_eq_false (show ¬ (n:Int)<8 by omega)]
set_option maxRecDepth 100000 in
theorem stMay_none (m:Mk) (pa pb pt pe:Option Addr) (nt ct ne ce:Nat) (w:World) (hk:m.kind<256) (h:m.kind=0 \/ 10<=m.kind) :
    Calls Tryz.prog 141 #[stAgg m (.pointer pa) (.pointer pb) (.slice pt nt ct) (.slice pe ne ce)] w fun e w'=>Made (.returned (.bool (stMay m nt ne))) w e w':=by
  have e:stMay m nt ne=false:=by
    rcases h with h | h
    · simp [stMay,h]
    · simp [stMay,show ¬ m.kind<=9 by omega]
  rw [e]
  have HL:=Lib.hid (fun o=>(Below.refl w.heap.size w).alloc (Nat.le_refl _) o)
  rcases h with h | h
  · obtain ⟨k,rg,mo,lo,a,b⟩:=m
    simp only at h
    subst h
    clear e
    simp only [stAgg]
    go_enter Tryz.func141,Tryz.ntmps141
    go_wp2_with fail
    go_ret
    exact ⟨rfl,HL.out _⟩
  · have i1:((m.kind:Int) == 0)=false:=beq_eq_false_iff_ne.2 (by omega)
    have i2:(10:Int)<=(m.kind:Int):=by omega
    have i3:(m.kind:Int)<256:=by omega
    clear e h
    simp only [stAgg]
    go_enter Tryz.func141,Tryz.ntmps141
    go_wp2_with fail
    go_ret
    exact ⟨rfl,HL.out _⟩
set_option maxRecDepth 100000 in
set_option maxHeartbeats 4000000 in
theorem stMay_walk (m:Mk) (pa pb pt pe:Option Addr) (nt ct ne ce:Nat) (w:World) (h1:1<=m.kind) (h2:m.kind<=9) (hf:FineM m) (hT:KindAt w) (ha:Tree w (trO m.a) (.pointer pa)) (hb:Tree w (trO m.b) (.pointer pb)) :
    Calls Tryz.prog 141 #[stAgg m (.pointer pa) (.pointer pb) (.slice pt nt ct) (.slice pe ne ce)] w fun e w'=>Made (.returned (.bool (stMay m nt ne))) w e w':=by
  have HI:=Lib.hid (fun W=>isLoc_made m.loc W)
  have HM:=Lib.hid (fun W=>modes_any m.kind hf.kind W)
  have HC:=Lib.hid (fun v W (h:Small W v (modesOf m.kind))=>cont_made m.mode h (by have:=modesOf_len m.kind;omega))
  have HXA:=Lib.hid (fun W gk (h:Below w.heap.size w W) (hs:Sits W gk 5 #[.int .u8 0,.int .u8 1])=>exMay_any m.a hf.a [0,1] (by decide) (.pointer pa) (.slice (some ⟨gk,0,none⟩) 2 2) W (ha.below h) (.inr ⟨gk,rfl,hs⟩))
  have HXB:=Lib.hid (fun W gk (h:Below w.heap.size w W) (hs:Sits W gk 5 #[.int .u8 0,.int .u8 1])=>exMay_any m.b hf.b [0,1] (by decide) (.pointer pb) (.slice (some ⟨gk,0,none⟩) 2 2) W (hb.below h) (.inr ⟨gk,rfl,hs⟩))
  have qa:=ptr_nil pa
  have qb:=ptr_nil pb
  have hpa:pa.isNone = !m.a.isSome:=by
    obtain ⟨p,hp,hn⟩:=ha.ptr
    injection hp with hp
    subst hp
    rw [hn]
    cases m.a with
    | none=>rfl
    | some e=>cases e <;> rfl
  have hpb:pb.isNone = !m.b.isSome:=by
    obtain ⟨p,hp,hn⟩:=hb.ptr
    injection hp with hp
    subst hp
    rw [hn]
    cases m.b with
    | none=>rfl
    | some e=>cases e <;> rfl
  rw [hpa] at qa
  rw [hpb] at qb
  have HE:=Lib.hid (stMay_parts h1 h2 nt ne)
  have lK:=hT.1
  have t0:w.cell? ⟨0,m.kind * 7,none⟩=some (.bool (has m.kind 0)):=hT.2 m.kind 0 (by omega) (by omega)
  have t1:w.cell? ⟨0,m.kind * 7+1,none⟩=some (.bool (has m.kind 1)):=hT.2 m.kind 1 (by omega) (by omega)
  have t2:w.cell? ⟨0,m.kind * 7+2,none⟩=some (.bool (has m.kind 2)):=hT.2 m.kind 2 (by omega) (by omega)
  have t3:w.cell? ⟨0,m.kind * 7+3,none⟩=some (.bool (has m.kind 3)):=hT.2 m.kind 3 (by omega) (by omega)
  have t4:w.cell? ⟨0,m.kind * 7+4,none⟩=some (.bool (has m.kind 4)):=hT.2 m.kind 4 (by omega) (by omega)
  have t5:w.cell? ⟨0,m.kind * 7+5,none⟩=some (.bool (has m.kind 5)):=hT.2 m.kind 5 (by omega) (by omega)
  have t6:w.cell? ⟨0,m.kind * 7+6,none⟩=some (.bool (has m.kind 6)):=hT.2 m.kind 6 (by omega) (by omega)
  obtain ⟨b0,hb0⟩:∃ b,b=has m.kind 0:=⟨_,rfl⟩
  obtain ⟨b1,hb1⟩:∃ b,b=has m.kind 1:=⟨_,rfl⟩
  obtain ⟨b2,hb2⟩:∃ b,b=has m.kind 2:=⟨_,rfl⟩
  obtain ⟨b3,hb3⟩:∃ b,b=has m.kind 3:=⟨_,rfl⟩
  obtain ⟨b4,hb4⟩:∃ b,b=has m.kind 4:=⟨_,rfl⟩
  obtain ⟨b5,hb5⟩:∃ b,b=has m.kind 5:=⟨_,rfl⟩
  obtain ⟨b6,hb6⟩:∃ b,b=has m.kind 6:=⟨_,rfl⟩
  rw [<- hb0,<- hb1,<- hb2,<- hb3,<- hb4,<- hb5,<- hb6] at HE
  rw [<- hb0] at t0
  rw [<- hb1] at t1
  rw [<- hb2] at t2
  rw [<- hb3] at t3
  rw [<- hb4] at t4
  rw [<- hb5] at t5
  rw [<- hb6] at t6
  clear hb0
  clear hb1
  clear hb2
  clear hb3
  clear hb4
  clear hb5
  clear hb6
  generalize isLoc m.loc=z1 at HI HE
  generalize (modesOf m.kind).contains m.mode=z2 at HC HE
  generalize exMay [0,1] m.a=z3 at HXA HE
  generalize exMay [0,1] m.b=z4 at HXB HE
  generalize (!m.a.isSome)=y3 at qa HE
  generalize (!m.b.isSome)=y4 at qb HE
  rw [<- int_dec8,<- int_dec0 m.reg,<- int_dec0 m.loc,<- int_dec0 m.mode,<- int_dec0 nt,<- int_dec0 ne] at HE
  obtain ⟨r0,hr0⟩:∃ r,fitB b0 (decide ((m.reg:Int)<8)) ((m.reg:Int) == 0)=r:=⟨_,rfl⟩
  have E0:=Lib.hid hr0
  rw [hr0] at HE
  clear hr0
  obtain ⟨r1,hr1⟩:∃ r,fitB b1 z1 ((m.loc:Int) == 0)=r:=⟨_,rfl⟩
  have E1:=Lib.hid hr1
  rw [hr1] at HE
  clear hr1
  obtain ⟨r2,hr2⟩:∃ r,fitB b2 z2 ((m.mode:Int) == 0)=r:=⟨_,rfl⟩
  have E2:=Lib.hid hr2
  rw [hr2] at HE
  clear hr2
  obtain ⟨r3,hr3⟩:∃ r,fitB b3 z3 y3=r:=⟨_,rfl⟩
  have E3:=Lib.hid hr3
  rw [hr3] at HE
  clear hr3
  obtain ⟨r4,hr4⟩:∃ r,fitB b4 z4 y4=r:=⟨_,rfl⟩
  have E4:=Lib.hid hr4
  rw [hr4] at HE
  clear hr4
  obtain ⟨r5,hr5⟩:∃ r,fitB b5 true ((nt:Int) == 0)=r:=⟨_,rfl⟩
  have E5:=Lib.hid hr5
  rw [hr5] at HE
  clear hr5
  obtain ⟨r6,hr6⟩:∃ r,fitB b6 true ((ne:Int) == 0)=r:=⟨_,rfl⟩
  have E6:=Lib.hid hr6
  rw [hr6] at HE
  clear hr6
  generalize stMay m nt ne=rr at HE ⊢
  have i0:((m.kind:Int) == 0)=false:=beq_eq_false_iff_ne.2 (by omega)
  have i1:¬ ((10:Int)<=(m.kind:Int)):=by omega
  have i2:(m.kind:Int)<10:=by omega
  have i3:(0:Int)<=(m.kind:Int):=by omega
  have HA1:=Lib.hid (show Sits ((w.alloc (.cells #[.int .u8 m.kind,.int .u8 m.reg,.int .u8 m.mode,.int .u8 m.loc,.pointer pa,.pointer pb,.slice pt nt ct,.slice pe ne ce] 169)).alloc (.cells #[.bool b0,.bool b1,.bool b2,.bool b3,.bool b4,.bool b5,.bool b6] 312)) w.heap.size 169 #[.int .u8 m.kind,.int .u8 m.reg,.int .u8 m.mode,.int .u8 m.loc,.pointer pa,.pointer pb,.slice pt nt ct,.slice pe ne ce] from (Sits.new _ _ _).alloc _)
  have HP1:=Lib.hid (show Sits ((w.alloc (.cells #[.int .u8 m.kind,.int .u8 m.reg,.int .u8 m.mode,.int .u8 m.loc,.pointer pa,.pointer pb,.slice pt nt ct,.slice pe ne ce] 169)).alloc (.cells #[.bool b0,.bool b1,.bool b2,.bool b3,.bool b4,.bool b5,.bool b6] 312)) (w.heap.size+1) 312 #[.bool b0,.bool b1,.bool b2,.bool b3,.bool b4,.bool b5,.bool b6] from Sits.made (by simp) _ _)
  have HL1:=Lib.hid (show Below w.heap.size w ((w.alloc (.cells #[.int .u8 m.kind,.int .u8 m.reg,.int .u8 m.mode,.int .u8 m.loc,.pointer pa,.pointer pb,.slice pt nt ct,.slice pe ne ce] 169)).alloc (.cells #[.bool b0,.bool b1,.bool b2,.bool b3,.bool b4,.bool b5,.bool b6] 312)) from ((Below.refl _ _).alloc (Nat.le_refl _) _).alloc (by simp) _)
  clear hT ha hb hpa hpb h1 h2 hf
  simp only [stAgg]
  go_enter Tryz.func141,Tryz.ntmps141
  go_wp2_with fail
  generalize (w.alloc (.cells #[.int .u8 m.kind,.int .u8 m.reg,.int .u8 m.mode,.int .u8 m.loc,.pointer pa,.pointer pb,.slice pt nt ct,.slice pe ne ce] 169)).alloc (.cells #[.bool b0,.bool b1,.bool b2,.bool b3,.bool b4,.bool b5,.bool b6] 312)=w1 at HA1 HP1 HL1 ⊢
  clear t0 t1 t2 t3 t4 t5 t6 lK
  generalize hg:w.heap.size=g at HA1 HP1 ⊢
  have HG:=Lib.hid hg
  clear hg
  generalize hgp:g+1=gp at HP1 ⊢
  clear hgp
  obtain ⟨c1,hc1⟩:∃ c,c=(r0 && r1):=⟨_,rfl⟩
  have HC1:=Lib.hid hc1
  obtain ⟨c2,hc2⟩:∃ c,c=(c1 && r2):=⟨_,rfl⟩
  have HC2:=Lib.hid hc2
  obtain ⟨c3,hc3⟩:∃ c,c=(c2 && r3):=⟨_,rfl⟩
  have HC3:=Lib.hid hc3
  obtain ⟨c4,hc4⟩:∃ c,c=(c3 && r4):=⟨_,rfl⟩
  have HC4:=Lib.hid hc4
  obtain ⟨c5,hc5⟩:∃ c,c=(c4 && r5):=⟨_,rfl⟩
  have HC5:=Lib.hid hc5
  obtain ⟨c6,hc6⟩:∃ c,c=(c5 && r6):=⟨_,rfl⟩
  have HC6:=Lib.hid hc6
  rw [<- hc1,<- hc2,<- hc3,<- hc4,<- hc5,<- hc6] at HE
  clear hc1 hc2 hc3 hc4 hc5 hc6
  refine wp_flowG ([17,18,19,20,21,22,23,24,25,26,27,28,29,30,31,32,33,34,35,36,37,38,39,40,41,42,43,44,45,46,47,48,49,50,51,52,53,54,55,56] ++ [57,58,59,60,61,62,63,64,65,66,67,68,69,70,71,72,73,74,75,76,77,78,79,80,81,82,83,84,85,86,87,88,89,90,91,92]) ([eqV (.pointer (some ⟨gp,0,none⟩)),eqV (.bool b0),eqV (.pointer (some ⟨g,1,none⟩)),eqV (.int .u8 m.reg),eqV (.bool (decide ((m.reg:Int)<8))),eqV (.pointer (some ⟨g,1,none⟩)),eqV (.int .u8 m.reg),eqV (.bool ((m.reg:Int) == 0)),eqV (.bool r0),eqV (.bool r0),gV r0 (eqV (.pointer (some ⟨gp,1,none⟩))),gV r0 (eqV (.bool b1)),gV r0 (eqV (.pointer (some ⟨g,3,none⟩))),gV r0 (eqV (.int .u8 m.loc)),gV r0 (eqV (.bool z1)),gV r0 (eqV (.pointer (some ⟨g,3,none⟩))),gV r0 (eqV (.int .u8 m.loc)),gV r0 (eqV (.bool ((m.loc:Int) == 0))),gV r0 (eqV (.bool r1)),eqV (.bool c1),eqV (.bool c1),gV c1 (eqV (.pointer (some ⟨gp,2,none⟩))),gV c1 (eqV (.bool b2)),gV c1 (eqV (.pointer (some ⟨g,0,none⟩))),gV c1 (eqV (.int .u8 m.kind)),gV c1 (smallV (modesOf m.kind)),gV c1 (eqV (.pointer (some ⟨g,2,none⟩))),gV c1 (eqV (.int .u8 m.mode)),gV c1 (eqV (.bool z2)),gV c1 (eqV (.pointer (some ⟨g,2,none⟩))),gV c1 (eqV (.int .u8 m.mode)),gV c1 (eqV (.bool ((m.mode:Int) == 0))),gV c1 (eqV (.bool r2)),eqV (.bool c2),eqV (.bool c2),gV c2 (eqV (.pointer (some ⟨gp,3,none⟩))),gV c2 (eqV (.bool b3)),gV c2 (eqV (.pointer (some ⟨g,4,none⟩))),gV c2 (eqV (.pointer pa)),gV c2 (rowV 5 2 #[.int .u8 0,.int .u8 1])] ++ [gV c2 (eqV (.bool z3)),gV c2 (eqV (.pointer (some ⟨g,4,none⟩))),gV c2 (eqV (.pointer pa)),gV c2 (eqV (.bool y3)),gV c2 (eqV (.bool r3)),eqV (.bool c3),eqV (.bool c3),gV c3 (eqV (.pointer (some ⟨gp,4,none⟩))),gV c3 (eqV (.bool b4)),gV c3 (eqV (.pointer (some ⟨g,5,none⟩))),gV c3 (eqV (.pointer pb)),gV c3 (rowV 5 2 #[.int .u8 0,.int .u8 1]),gV c3 (eqV (.bool z4)),gV c3 (eqV (.pointer (some ⟨g,5,none⟩))),gV c3 (eqV (.pointer pb)),gV c3 (eqV (.bool y4)),gV c3 (eqV (.bool r4)),eqV (.bool c4),eqV (.bool c4),gV c4 (eqV (.pointer (some ⟨gp,5,none⟩))),gV c4 (eqV (.bool b5)),gV c4 (eqV (.pointer (some ⟨g,6,none⟩))),gV c4 (eqV (.slice pt nt ct)),gV c4 (eqV (.int .i64 nt)),gV c4 (eqV (.bool ((nt:Int) == 0))),gV c4 (eqV (.bool r5)),eqV (.bool c5),eqV (.bool c5),gV c5 (eqV (.pointer (some ⟨gp,6,none⟩))),gV c5 (eqV (.bool b6)),gV c5 (eqV (.pointer (some ⟨g,7,none⟩))),gV c5 (eqV (.slice pe ne ce)),gV c5 (eqV (.int .i64 ne)),gV c5 (eqV (.bool ((ne:Int) == 0))),gV c5 (eqV (.bool r6)),eqV (.bool c6)]) (by kernel_rfl) (by kernel_rfl) (by kernel_rfl) (by kernel_rfl) (by rfl)
    (by simp only [List.mem_cons,List.not_mem_nil,or_false,forall_eq_or_imp,forall_eq,List.cons_append,List.nil_append];refine ⟨?_,?_,?_,?_,?_,?_,?_,?_,?_,?_,?_,?_,?_,?_,?_,?_,?_,?_,?_,?_,?_,?_,?_,?_,?_,?_,?_,?_,?_,?_,?_,?_,?_,?_,?_,?_,?_,?_,?_,?_,?_,?_,?_,?_,?_,?_,?_,?_,?_,?_,?_,?_,?_,?_,?_,?_,?_,?_,?_,?_,?_,?_,?_,?_,?_,?_,?_,?_,?_,?_,?_,?_,?_,?_,?_,?_⟩ <;> (first | exact eqV_mono _ | exact rowV_mono _ _ _ | exact smallV_mono _ | exact gV_mono _ (eqV_mono _) | exact gV_mono _ (rowV_mono _ _ _) | exact gV_mono _ (smallV_mono _))) ?_ ?_
  · intro i o hi ho A W hW hk he
    simp only [List.length_cons,List.length_nil,Nat.zero_add,Nat.reduceAdd,List.cons_append,List.nil_append] at hi
    obtain rfl | rfl | rfl | rfl | rfl | rfl | rfl | rfl | rfl | rfl | rfl | rfl | rfl | rfl | rfl | rfl | rfl | rfl | rfl | rfl | rfl | rfl | rfl | rfl | rfl | rfl | rfl | rfl | rfl | rfl | rfl | rfl | rfl | rfl | rfl | rfl | rfl | rfl | rfl | rfl | rfl | rfl | rfl | rfl | rfl | rfl | rfl | rfl | rfl | rfl | rfl | rfl | rfl | rfl | rfl | rfl | rfl | rfl | rfl | rfl | rfl | rfl | rfl | rfl | rfl | rfl | rfl | rfl | rfl | rfl | rfl | rfl | rfl | rfl | rfl | rfl:i=0 \/ i=1 \/ i=2 \/ i=3 \/ i=4 \/ i=5 \/ i=6 \/ i=7 \/ i=8 \/ i=9 \/ i=10 \/ i=11 \/ i=12 \/ i=13 \/ i=14 \/ i=15 \/ i=16 \/ i=17 \/ i=18 \/ i=19 \/ i=20 \/ i=21 \/ i=22 \/ i=23 \/ i=24 \/ i=25 \/ i=26 \/ i=27 \/ i=28 \/ i=29 \/ i=30 \/ i=31 \/ i=32 \/ i=33 \/ i=34 \/ i=35 \/ i=36 \/ i=37 \/ i=38 \/ i=39 \/ i=40 \/ i=41 \/ i=42 \/ i=43 \/ i=44 \/ i=45 \/ i=46 \/ i=47 \/ i=48 \/ i=49 \/ i=50 \/ i=51 \/ i=52 \/ i=53 \/ i=54 \/ i=55 \/ i=56 \/ i=57 \/ i=58 \/ i=59 \/ i=60 \/ i=61 \/ i=62 \/ i=63 \/ i=64 \/ i=65 \/ i=66 \/ i=67 \/ i=68 \/ i=69 \/ i=70 \/ i=71 \/ i=72 \/ i=73 \/ i=74 \/ i=75:=by omega
    · injection ho with ho;subst ho
      refine .inl ⟨wanted_free rfl,?_⟩
      have h3:A.tmps[3]?.getD undef = .pointer (some ⟨gp,0,none⟩):=hk 3 (by rfl)
      go_simp
      exact ⟨rfl,Below.refl _ _⟩
    · injection ho with ho;subst ho
      refine .inl ⟨wanted_free rfl,?_⟩
      have h17:A.tmps[17]?.getD undef = .pointer (some ⟨gp,0,none⟩):=he 0 (by kernel_rfl)
      have c0:=(HP1.out.below hW HP1.out.lt).cell 0
      go_simp
      exact ⟨rfl,Below.refl _ _⟩
    · injection ho with ho;subst ho
      refine .inl ⟨wanted_free rfl,?_⟩
      have h1:A.tmps[1]?.getD undef = .pointer (some ⟨g,0,none⟩):=hk 1 (by rfl)
      go_simp
      exact ⟨rfl,Below.refl _ _⟩
    · injection ho with ho;subst ho
      refine .inl ⟨wanted_free rfl,?_⟩
      have h19:A.tmps[19]?.getD undef = .pointer (some ⟨g,1,none⟩):=he 2 (by kernel_rfl)
      have c0:=(HA1.out.below hW HA1.out.lt).cell 1
      go_simp
      exact ⟨rfl,Below.refl _ _⟩
    · injection ho with ho;subst ho
      refine .inl ⟨wanted_free rfl,?_⟩
      have h20:A.tmps[20]?.getD undef = .int .u8 m.reg:=he 3 (by kernel_rfl)
      go_simp
      exact ⟨rfl,Below.refl _ _⟩
    · injection ho with ho;subst ho
      refine .inl ⟨wanted_free rfl,?_⟩
      have h1:A.tmps[1]?.getD undef = .pointer (some ⟨g,0,none⟩):=hk 1 (by rfl)
      go_simp
      exact ⟨rfl,Below.refl _ _⟩
    · injection ho with ho;subst ho
      refine .inl ⟨wanted_free rfl,?_⟩
      have h22:A.tmps[22]?.getD undef = .pointer (some ⟨g,1,none⟩):=he 5 (by kernel_rfl)
      have c0:=(HA1.out.below hW HA1.out.lt).cell 1
      go_simp
      exact ⟨rfl,Below.refl _ _⟩
    · injection ho with ho;subst ho
      refine .inl ⟨wanted_free rfl,?_⟩
      have h23:A.tmps[23]?.getD undef = .int .u8 m.reg:=he 6 (by kernel_rfl)
      go_simp
      exact ⟨rfl,Below.refl _ _⟩
    · injection ho with ho;subst ho
      refine .inl ⟨wanted_free rfl,?_⟩
      have h18:A.tmps[18]?.getD undef = .bool b0:=he 1 (by kernel_rfl)
      have h21:A.tmps[21]?.getD undef = .bool (decide ((m.reg:Int)<8)):=he 4 (by kernel_rfl)
      have h24:A.tmps[24]?.getD undef = .bool ((m.reg:Int) == 0):=he 7 (by kernel_rfl)
      go_simp
      refine Calls.mono (fit_made W E0.out) ?_
      rintro e' w' ⟨rfl,hb⟩
      exact ⟨_,rfl,rfl,hb⟩
    · injection ho with ho;subst ho
      refine .inl ⟨wanted_free rfl,?_⟩
      have h25:A.tmps[25]?.getD undef = .bool r0:=he 8 (by kernel_rfl)
      go_simp
      exact ⟨rfl,Below.refl _ _⟩
    · injection ho with ho;subst ho
      have hg:A.tmps[26]?.getD undef = .bool r0:=he 9 (by kernel_rfl)
      cases r0 with
      | false=>exact .inr ⟨wanted_no (d:=26) rfl (by kernel_rfl) hg,rfl⟩
      | true =>
        refine .inl ⟨wanted_yes (d:=26) rfl (by kernel_rfl) hg,?_⟩
        have h3:A.tmps[3]?.getD undef = .pointer (some ⟨gp,0,none⟩):=hk 3 (by rfl)
        go_simp
        exact ⟨rfl,Below.refl _ _⟩
    · injection ho with ho;subst ho
      have hg:A.tmps[26]?.getD undef = .bool r0:=he 9 (by kernel_rfl)
      cases r0 with
      | false=>exact .inr ⟨wanted_no (d:=26) rfl (by kernel_rfl) hg,rfl⟩
      | true =>
        refine .inl ⟨wanted_yes (d:=26) rfl (by kernel_rfl) hg,?_⟩
        have h27:A.tmps[27]?.getD undef = .pointer (some ⟨gp,1,none⟩):=he 10 (by kernel_rfl)
        have c0:=(HP1.out.below hW HP1.out.lt).cell 1
        go_simp
        exact ⟨rfl,Below.refl _ _⟩
    · injection ho with ho;subst ho
      have hg:A.tmps[26]?.getD undef = .bool r0:=he 9 (by kernel_rfl)
      cases r0 with
      | false=>exact .inr ⟨wanted_no (d:=26) rfl (by kernel_rfl) hg,rfl⟩
      | true =>
        refine .inl ⟨wanted_yes (d:=26) rfl (by kernel_rfl) hg,?_⟩
        have h1:A.tmps[1]?.getD undef = .pointer (some ⟨g,0,none⟩):=hk 1 (by rfl)
        go_simp
        exact ⟨rfl,Below.refl _ _⟩
    · injection ho with ho;subst ho
      have hg:A.tmps[26]?.getD undef = .bool r0:=he 9 (by kernel_rfl)
      cases r0 with
      | false=>exact .inr ⟨wanted_no (d:=26) rfl (by kernel_rfl) hg,rfl⟩
      | true =>
        refine .inl ⟨wanted_yes (d:=26) rfl (by kernel_rfl) hg,?_⟩
        have h29:A.tmps[29]?.getD undef = .pointer (some ⟨g,3,none⟩):=he 12 (by kernel_rfl)
        have c0:=(HA1.out.below hW HA1.out.lt).cell 3
        go_simp
        exact ⟨rfl,Below.refl _ _⟩
    · injection ho with ho;subst ho
      have hg:A.tmps[26]?.getD undef = .bool r0:=he 9 (by kernel_rfl)
      cases r0 with
      | false=>exact .inr ⟨wanted_no (d:=26) rfl (by kernel_rfl) hg,rfl⟩
      | true =>
        refine .inl ⟨wanted_yes (d:=26) rfl (by kernel_rfl) hg,?_⟩
        have h30:A.tmps[30]?.getD undef = .int .u8 m.loc:=he 13 (by kernel_rfl)
        go_simp
        refine Calls.mono (HI.out W) ?_
        rintro e' w' ⟨rfl,hb⟩
        exact ⟨_,rfl,rfl,hb⟩
    · injection ho with ho;subst ho
      have hg:A.tmps[26]?.getD undef = .bool r0:=he 9 (by kernel_rfl)
      cases r0 with
      | false=>exact .inr ⟨wanted_no (d:=26) rfl (by kernel_rfl) hg,rfl⟩
      | true =>
        refine .inl ⟨wanted_yes (d:=26) rfl (by kernel_rfl) hg,?_⟩
        have h1:A.tmps[1]?.getD undef = .pointer (some ⟨g,0,none⟩):=hk 1 (by rfl)
        go_simp
        exact ⟨rfl,Below.refl _ _⟩
    · injection ho with ho;subst ho
      have hg:A.tmps[26]?.getD undef = .bool r0:=he 9 (by kernel_rfl)
      cases r0 with
      | false=>exact .inr ⟨wanted_no (d:=26) rfl (by kernel_rfl) hg,rfl⟩
      | true =>
        refine .inl ⟨wanted_yes (d:=26) rfl (by kernel_rfl) hg,?_⟩
        have h32:A.tmps[32]?.getD undef = .pointer (some ⟨g,3,none⟩):=he 15 (by kernel_rfl)
        have c0:=(HA1.out.below hW HA1.out.lt).cell 3
        go_simp
        exact ⟨rfl,Below.refl _ _⟩
    · injection ho with ho;subst ho
      have hg:A.tmps[26]?.getD undef = .bool r0:=he 9 (by kernel_rfl)
      cases r0 with
      | false=>exact .inr ⟨wanted_no (d:=26) rfl (by kernel_rfl) hg,rfl⟩
      | true =>
        refine .inl ⟨wanted_yes (d:=26) rfl (by kernel_rfl) hg,?_⟩
        have h33:A.tmps[33]?.getD undef = .int .u8 m.loc:=he 16 (by kernel_rfl)
        go_simp
        exact ⟨rfl,Below.refl _ _⟩
    · injection ho with ho;subst ho
      have hg:A.tmps[26]?.getD undef = .bool r0:=he 9 (by kernel_rfl)
      cases r0 with
      | false=>exact .inr ⟨wanted_no (d:=26) rfl (by kernel_rfl) hg,rfl⟩
      | true =>
        refine .inl ⟨wanted_yes (d:=26) rfl (by kernel_rfl) hg,?_⟩
        have h28:A.tmps[28]?.getD undef = .bool b1:=he 11 (by kernel_rfl)
        have h31:A.tmps[31]?.getD undef = .bool z1:=he 14 (by kernel_rfl)
        have h34:A.tmps[34]?.getD undef = .bool ((m.loc:Int) == 0):=he 17 (by kernel_rfl)
        go_simp
        refine Calls.mono (fit_made W E1.out) ?_
        rintro e' w' ⟨rfl,hb⟩
        exact ⟨_,rfl,rfl,hb⟩
    · injection ho with ho;subst ho
      refine .inl ⟨wanted_free rfl,?_⟩
      have h26:A.tmps[26]?.getD undef = .bool r0:=he 9 (by kernel_rfl)
      cases r0 with
      | false =>
        have hr:false=c1:=by rw [HC1.out];rfl
        go_simp
        exact ⟨by rw [<- hr];rfl,Below.refl _ _⟩
      | true =>
        have hr:r1=c1:=by rw [HC1.out];rfl
        have ha:A.tmps[35]?.getD undef = .bool r1:=he 18 (by kernel_rfl)
        go_simp
        exact ⟨by rw [<- hr];rfl,Below.refl _ _⟩
    · injection ho with ho;subst ho
      refine .inl ⟨wanted_free rfl,?_⟩
      have h36:A.tmps[36]?.getD undef = .bool c1:=he 19 (by kernel_rfl)
      go_simp
      exact ⟨rfl,Below.refl _ _⟩
    · injection ho with ho;subst ho
      have hg:A.tmps[37]?.getD undef = .bool c1:=he 20 (by kernel_rfl)
      cases c1 with
      | false=>exact .inr ⟨wanted_no (d:=37) rfl (by kernel_rfl) hg,rfl⟩
      | true =>
        refine .inl ⟨wanted_yes (d:=37) rfl (by kernel_rfl) hg,?_⟩
        have h3:A.tmps[3]?.getD undef = .pointer (some ⟨gp,0,none⟩):=hk 3 (by rfl)
        go_simp
        exact ⟨rfl,Below.refl _ _⟩
    · injection ho with ho;subst ho
      have hg:A.tmps[37]?.getD undef = .bool c1:=he 20 (by kernel_rfl)
      cases c1 with
      | false=>exact .inr ⟨wanted_no (d:=37) rfl (by kernel_rfl) hg,rfl⟩
      | true =>
        refine .inl ⟨wanted_yes (d:=37) rfl (by kernel_rfl) hg,?_⟩
        have h38:A.tmps[38]?.getD undef = .pointer (some ⟨gp,2,none⟩):=he 21 (by kernel_rfl)
        have c0:=(HP1.out.below hW HP1.out.lt).cell 2
        go_simp
        exact ⟨rfl,Below.refl _ _⟩
    · injection ho with ho;subst ho
      have hg:A.tmps[37]?.getD undef = .bool c1:=he 20 (by kernel_rfl)
      cases c1 with
      | false=>exact .inr ⟨wanted_no (d:=37) rfl (by kernel_rfl) hg,rfl⟩
      | true =>
        refine .inl ⟨wanted_yes (d:=37) rfl (by kernel_rfl) hg,?_⟩
        have h1:A.tmps[1]?.getD undef = .pointer (some ⟨g,0,none⟩):=hk 1 (by rfl)
        go_simp
        exact ⟨rfl,Below.refl _ _⟩
    · injection ho with ho;subst ho
      have hg:A.tmps[37]?.getD undef = .bool c1:=he 20 (by kernel_rfl)
      cases c1 with
      | false=>exact .inr ⟨wanted_no (d:=37) rfl (by kernel_rfl) hg,rfl⟩
      | true =>
        refine .inl ⟨wanted_yes (d:=37) rfl (by kernel_rfl) hg,?_⟩
        have h40:A.tmps[40]?.getD undef = .pointer (some ⟨g,0,none⟩):=he 23 (by kernel_rfl)
        have c0:=(HA1.out.below hW HA1.out.lt).cell 0
        go_simp
        exact ⟨rfl,Below.refl _ _⟩
    · injection ho with ho;subst ho
      have hg:A.tmps[37]?.getD undef = .bool c1:=he 20 (by kernel_rfl)
      cases c1 with
      | false=>exact .inr ⟨wanted_no (d:=37) rfl (by kernel_rfl) hg,rfl⟩
      | true =>
        refine .inl ⟨wanted_yes (d:=37) rfl (by kernel_rfl) hg,?_⟩
        have h41:A.tmps[41]?.getD undef = .int .u8 m.kind:=he 24 (by kernel_rfl)
        go_simp
        refine Calls.mono (HM.out W) ?_
        rintro e' w' ⟨v,rfl,hv,hb⟩
        obtain ⟨p,n,c,rfl⟩:=small_slice hv
        exact ⟨_,rfl,⟨_,_,_,hv,rfl⟩,hb⟩
    · injection ho with ho;subst ho
      have hg:A.tmps[37]?.getD undef = .bool c1:=he 20 (by kernel_rfl)
      cases c1 with
      | false=>exact .inr ⟨wanted_no (d:=37) rfl (by kernel_rfl) hg,rfl⟩
      | true =>
        refine .inl ⟨wanted_yes (d:=37) rfl (by kernel_rfl) hg,?_⟩
        have h1:A.tmps[1]?.getD undef = .pointer (some ⟨g,0,none⟩):=hk 1 (by rfl)
        go_simp
        exact ⟨rfl,Below.refl _ _⟩
    · injection ho with ho;subst ho
      have hg:A.tmps[37]?.getD undef = .bool c1:=he 20 (by kernel_rfl)
      cases c1 with
      | false=>exact .inr ⟨wanted_no (d:=37) rfl (by kernel_rfl) hg,rfl⟩
      | true =>
        refine .inl ⟨wanted_yes (d:=37) rfl (by kernel_rfl) hg,?_⟩
        have h43:A.tmps[43]?.getD undef = .pointer (some ⟨g,2,none⟩):=he 26 (by kernel_rfl)
        have c0:=(HA1.out.below hW HA1.out.lt).cell 2
        go_simp
        exact ⟨rfl,Below.refl _ _⟩
    · injection ho with ho;subst ho
      have hg:A.tmps[37]?.getD undef = .bool c1:=he 20 (by kernel_rfl)
      cases c1 with
      | false=>exact .inr ⟨wanted_no (d:=37) rfl (by kernel_rfl) hg,rfl⟩
      | true =>
        refine .inl ⟨wanted_yes (d:=37) rfl (by kernel_rfl) hg,?_⟩
        obtain ⟨p42,n42,c42,hs42,h42⟩:smallV (modesOf m.kind) (A.tmps[42]?.getD undef) W:=he 25 (by kernel_rfl)
        have h44:A.tmps[44]?.getD undef = .int .u8 m.mode:=he 27 (by kernel_rfl)
        go_simp
        refine Calls.mono (HC.out _ W hs42) ?_
        rintro e' w' ⟨rfl,hb⟩
        exact ⟨_,rfl,rfl,hb⟩
    · injection ho with ho;subst ho
      have hg:A.tmps[37]?.getD undef = .bool c1:=he 20 (by kernel_rfl)
      cases c1 with
      | false=>exact .inr ⟨wanted_no (d:=37) rfl (by kernel_rfl) hg,rfl⟩
      | true =>
        refine .inl ⟨wanted_yes (d:=37) rfl (by kernel_rfl) hg,?_⟩
        have h1:A.tmps[1]?.getD undef = .pointer (some ⟨g,0,none⟩):=hk 1 (by rfl)
        go_simp
        exact ⟨rfl,Below.refl _ _⟩
    · injection ho with ho;subst ho
      have hg:A.tmps[37]?.getD undef = .bool c1:=he 20 (by kernel_rfl)
      cases c1 with
      | false=>exact .inr ⟨wanted_no (d:=37) rfl (by kernel_rfl) hg,rfl⟩
      | true =>
        refine .inl ⟨wanted_yes (d:=37) rfl (by kernel_rfl) hg,?_⟩
        have h46:A.tmps[46]?.getD undef = .pointer (some ⟨g,2,none⟩):=he 29 (by kernel_rfl)
        have c0:=(HA1.out.below hW HA1.out.lt).cell 2
        go_simp
        exact ⟨rfl,Below.refl _ _⟩
    · injection ho with ho;subst ho
      have hg:A.tmps[37]?.getD undef = .bool c1:=he 20 (by kernel_rfl)
      cases c1 with
      | false=>exact .inr ⟨wanted_no (d:=37) rfl (by kernel_rfl) hg,rfl⟩
      | true =>
        refine .inl ⟨wanted_yes (d:=37) rfl (by kernel_rfl) hg,?_⟩
        have h47:A.tmps[47]?.getD undef = .int .u8 m.mode:=he 30 (by kernel_rfl)
        go_simp
        exact ⟨rfl,Below.refl _ _⟩
    · injection ho with ho;subst ho
      have hg:A.tmps[37]?.getD undef = .bool c1:=he 20 (by kernel_rfl)
      cases c1 with
      | false=>exact .inr ⟨wanted_no (d:=37) rfl (by kernel_rfl) hg,rfl⟩
      | true =>
        refine .inl ⟨wanted_yes (d:=37) rfl (by kernel_rfl) hg,?_⟩
        have h39:A.tmps[39]?.getD undef = .bool b2:=he 22 (by kernel_rfl)
        have h45:A.tmps[45]?.getD undef = .bool z2:=he 28 (by kernel_rfl)
        have h48:A.tmps[48]?.getD undef = .bool ((m.mode:Int) == 0):=he 31 (by kernel_rfl)
        go_simp
        refine Calls.mono (fit_made W E2.out) ?_
        rintro e' w' ⟨rfl,hb⟩
        exact ⟨_,rfl,rfl,hb⟩
    · injection ho with ho;subst ho
      refine .inl ⟨wanted_free rfl,?_⟩
      have h37:A.tmps[37]?.getD undef = .bool c1:=he 20 (by kernel_rfl)
      cases c1 with
      | false =>
        have hr:false=c2:=by rw [HC2.out];rfl
        go_simp
        exact ⟨by rw [<- hr];rfl,Below.refl _ _⟩
      | true =>
        have hr:r2=c2:=by rw [HC2.out];rfl
        have ha:A.tmps[49]?.getD undef = .bool r2:=he 32 (by kernel_rfl)
        go_simp
        exact ⟨by rw [<- hr];rfl,Below.refl _ _⟩
    · injection ho with ho;subst ho
      refine .inl ⟨wanted_free rfl,?_⟩
      have h50:A.tmps[50]?.getD undef = .bool c2:=he 33 (by kernel_rfl)
      go_simp
      exact ⟨rfl,Below.refl _ _⟩
    · injection ho with ho;subst ho
      have hg:A.tmps[51]?.getD undef = .bool c2:=he 34 (by kernel_rfl)
      cases c2 with
      | false=>exact .inr ⟨wanted_no (d:=51) rfl (by kernel_rfl) hg,rfl⟩
      | true =>
        refine .inl ⟨wanted_yes (d:=51) rfl (by kernel_rfl) hg,?_⟩
        have h3:A.tmps[3]?.getD undef = .pointer (some ⟨gp,0,none⟩):=hk 3 (by rfl)
        go_simp
        exact ⟨rfl,Below.refl _ _⟩
    · injection ho with ho;subst ho
      have hg:A.tmps[51]?.getD undef = .bool c2:=he 34 (by kernel_rfl)
      cases c2 with
      | false=>exact .inr ⟨wanted_no (d:=51) rfl (by kernel_rfl) hg,rfl⟩
      | true =>
        refine .inl ⟨wanted_yes (d:=51) rfl (by kernel_rfl) hg,?_⟩
        have h52:A.tmps[52]?.getD undef = .pointer (some ⟨gp,3,none⟩):=he 35 (by kernel_rfl)
        have c0:=(HP1.out.below hW HP1.out.lt).cell 3
        go_simp
        exact ⟨rfl,Below.refl _ _⟩
    · injection ho with ho;subst ho
      have hg:A.tmps[51]?.getD undef = .bool c2:=he 34 (by kernel_rfl)
      cases c2 with
      | false=>exact .inr ⟨wanted_no (d:=51) rfl (by kernel_rfl) hg,rfl⟩
      | true =>
        refine .inl ⟨wanted_yes (d:=51) rfl (by kernel_rfl) hg,?_⟩
        have h1:A.tmps[1]?.getD undef = .pointer (some ⟨g,0,none⟩):=hk 1 (by rfl)
        go_simp
        exact ⟨rfl,Below.refl _ _⟩
    · injection ho with ho;subst ho
      have hg:A.tmps[51]?.getD undef = .bool c2:=he 34 (by kernel_rfl)
      cases c2 with
      | false=>exact .inr ⟨wanted_no (d:=51) rfl (by kernel_rfl) hg,rfl⟩
      | true =>
        refine .inl ⟨wanted_yes (d:=51) rfl (by kernel_rfl) hg,?_⟩
        have h54:A.tmps[54]?.getD undef = .pointer (some ⟨g,4,none⟩):=he 37 (by kernel_rfl)
        have c0:=(HA1.out.below hW HA1.out.lt).cell 4
        go_simp
        exact ⟨rfl,Below.refl _ _⟩
    · injection ho with ho;subst ho
      have hg:A.tmps[51]?.getD undef = .bool c2:=he 34 (by kernel_rfl)
      cases c2 with
      | false=>exact .inr ⟨wanted_no (d:=51) rfl (by kernel_rfl) hg,rfl⟩
      | true =>
        refine .inl ⟨wanted_yes (d:=51) rfl (by kernel_rfl) hg,?_⟩
        go_simp
        exact ⟨⟨_,rfl,Sits.new _ _ _⟩,(Below.refl _ _).alloc (Nat.le_refl _) _⟩
    · injection ho with ho;subst ho
      have hg:A.tmps[51]?.getD undef = .bool c2:=he 34 (by kernel_rfl)
      cases c2 with
      | false=>exact .inr ⟨wanted_no (d:=51) rfl (by kernel_rfl) hg,rfl⟩
      | true =>
        refine .inl ⟨wanted_yes (d:=51) rfl (by kernel_rfl) hg,?_⟩
        have h55:A.tmps[55]?.getD undef = .pointer pa:=he 38 (by kernel_rfl)
        obtain ⟨gr56,h56,hr56⟩:rowV 5 2 #[.int .u8 0,.int .u8 1] (A.tmps[56]?.getD undef) W:=he 39 (by kernel_rfl)
        go_simp
        refine Calls.mono (HXA.out W _ (HL1.out.trans (hW.mono HL1.out.size)) hr56) ?_
        rintro e' w' ⟨rfl,hb⟩
        exact ⟨_,rfl,rfl,hb⟩
    · injection ho with ho;subst ho
      have hg:A.tmps[51]?.getD undef = .bool c2:=he 34 (by kernel_rfl)
      cases c2 with
      | false=>exact .inr ⟨wanted_no (d:=51) rfl (by kernel_rfl) hg,rfl⟩
      | true =>
        refine .inl ⟨wanted_yes (d:=51) rfl (by kernel_rfl) hg,?_⟩
        have h1:A.tmps[1]?.getD undef = .pointer (some ⟨g,0,none⟩):=hk 1 (by rfl)
        go_simp
        exact ⟨rfl,Below.refl _ _⟩
    · injection ho with ho;subst ho
      have hg:A.tmps[51]?.getD undef = .bool c2:=he 34 (by kernel_rfl)
      cases c2 with
      | false=>exact .inr ⟨wanted_no (d:=51) rfl (by kernel_rfl) hg,rfl⟩
      | true =>
        refine .inl ⟨wanted_yes (d:=51) rfl (by kernel_rfl) hg,?_⟩
        have h58:A.tmps[58]?.getD undef = .pointer (some ⟨g,4,none⟩):=he 41 (by kernel_rfl)
        have c0:=(HA1.out.below hW HA1.out.lt).cell 4
        go_simp
        exact ⟨rfl,Below.refl _ _⟩
    · injection ho with ho;subst ho
      have hg:A.tmps[51]?.getD undef = .bool c2:=he 34 (by kernel_rfl)
      cases c2 with
      | false=>exact .inr ⟨wanted_no (d:=51) rfl (by kernel_rfl) hg,rfl⟩
      | true =>
        refine .inl ⟨wanted_yes (d:=51) rfl (by kernel_rfl) hg,?_⟩
        have h59:A.tmps[59]?.getD undef = .pointer pa:=he 42 (by kernel_rfl)
        go_simp
        exact ⟨rfl,Below.refl _ _⟩
    · injection ho with ho;subst ho
      have hg:A.tmps[51]?.getD undef = .bool c2:=he 34 (by kernel_rfl)
      cases c2 with
      | false=>exact .inr ⟨wanted_no (d:=51) rfl (by kernel_rfl) hg,rfl⟩
      | true =>
        refine .inl ⟨wanted_yes (d:=51) rfl (by kernel_rfl) hg,?_⟩
        have h53:A.tmps[53]?.getD undef = .bool b3:=he 36 (by kernel_rfl)
        have h57:A.tmps[57]?.getD undef = .bool z3:=he 40 (by kernel_rfl)
        have h60:A.tmps[60]?.getD undef = .bool y3:=he 43 (by kernel_rfl)
        go_simp
        refine Calls.mono (fit_made W E3.out) ?_
        rintro e' w' ⟨rfl,hb⟩
        exact ⟨_,rfl,rfl,hb⟩
    · injection ho with ho;subst ho
      refine .inl ⟨wanted_free rfl,?_⟩
      have h51:A.tmps[51]?.getD undef = .bool c2:=he 34 (by kernel_rfl)
      cases c2 with
      | false =>
        have hr:false=c3:=by rw [HC3.out];rfl
        go_simp
        exact ⟨by rw [<- hr];rfl,Below.refl _ _⟩
      | true =>
        have hr:r3=c3:=by rw [HC3.out];rfl
        have ha:A.tmps[61]?.getD undef = .bool r3:=he 44 (by kernel_rfl)
        go_simp
        exact ⟨by rw [<- hr];rfl,Below.refl _ _⟩
    · injection ho with ho;subst ho
      refine .inl ⟨wanted_free rfl,?_⟩
      have h62:A.tmps[62]?.getD undef = .bool c3:=he 45 (by kernel_rfl)
      go_simp
      exact ⟨rfl,Below.refl _ _⟩
    · injection ho with ho;subst ho
      have hg:A.tmps[63]?.getD undef = .bool c3:=he 46 (by kernel_rfl)
      cases c3 with
      | false=>exact .inr ⟨wanted_no (d:=63) rfl (by kernel_rfl) hg,rfl⟩
      | true =>
        refine .inl ⟨wanted_yes (d:=63) rfl (by kernel_rfl) hg,?_⟩
        have h3:A.tmps[3]?.getD undef = .pointer (some ⟨gp,0,none⟩):=hk 3 (by rfl)
        go_simp
        exact ⟨rfl,Below.refl _ _⟩
    · injection ho with ho;subst ho
      have hg:A.tmps[63]?.getD undef = .bool c3:=he 46 (by kernel_rfl)
      cases c3 with
      | false=>exact .inr ⟨wanted_no (d:=63) rfl (by kernel_rfl) hg,rfl⟩
      | true =>
        refine .inl ⟨wanted_yes (d:=63) rfl (by kernel_rfl) hg,?_⟩
        have h64:A.tmps[64]?.getD undef = .pointer (some ⟨gp,4,none⟩):=he 47 (by kernel_rfl)
        have c0:=(HP1.out.below hW HP1.out.lt).cell 4
        go_simp
        exact ⟨rfl,Below.refl _ _⟩
    · injection ho with ho;subst ho
      have hg:A.tmps[63]?.getD undef = .bool c3:=he 46 (by kernel_rfl)
      cases c3 with
      | false=>exact .inr ⟨wanted_no (d:=63) rfl (by kernel_rfl) hg,rfl⟩
      | true =>
        refine .inl ⟨wanted_yes (d:=63) rfl (by kernel_rfl) hg,?_⟩
        have h1:A.tmps[1]?.getD undef = .pointer (some ⟨g,0,none⟩):=hk 1 (by rfl)
        go_simp
        exact ⟨rfl,Below.refl _ _⟩
    · injection ho with ho;subst ho
      have hg:A.tmps[63]?.getD undef = .bool c3:=he 46 (by kernel_rfl)
      cases c3 with
      | false=>exact .inr ⟨wanted_no (d:=63) rfl (by kernel_rfl) hg,rfl⟩
      | true =>
        refine .inl ⟨wanted_yes (d:=63) rfl (by kernel_rfl) hg,?_⟩
        have h66:A.tmps[66]?.getD undef = .pointer (some ⟨g,5,none⟩):=he 49 (by kernel_rfl)
        have c0:=(HA1.out.below hW HA1.out.lt).cell 5
        go_simp
        exact ⟨rfl,Below.refl _ _⟩
    · injection ho with ho;subst ho
      have hg:A.tmps[63]?.getD undef = .bool c3:=he 46 (by kernel_rfl)
      cases c3 with
      | false=>exact .inr ⟨wanted_no (d:=63) rfl (by kernel_rfl) hg,rfl⟩
      | true =>
        refine .inl ⟨wanted_yes (d:=63) rfl (by kernel_rfl) hg,?_⟩
        go_simp
        exact ⟨⟨_,rfl,Sits.new _ _ _⟩,(Below.refl _ _).alloc (Nat.le_refl _) _⟩
    · injection ho with ho;subst ho
      have hg:A.tmps[63]?.getD undef = .bool c3:=he 46 (by kernel_rfl)
      cases c3 with
      | false=>exact .inr ⟨wanted_no (d:=63) rfl (by kernel_rfl) hg,rfl⟩
      | true =>
        refine .inl ⟨wanted_yes (d:=63) rfl (by kernel_rfl) hg,?_⟩
        have h67:A.tmps[67]?.getD undef = .pointer pb:=he 50 (by kernel_rfl)
        obtain ⟨gr68,h68,hr68⟩:rowV 5 2 #[.int .u8 0,.int .u8 1] (A.tmps[68]?.getD undef) W:=he 51 (by kernel_rfl)
        go_simp
        refine Calls.mono (HXB.out W _ (HL1.out.trans (hW.mono HL1.out.size)) hr68) ?_
        rintro e' w' ⟨rfl,hb⟩
        exact ⟨_,rfl,rfl,hb⟩
    · injection ho with ho;subst ho
      have hg:A.tmps[63]?.getD undef = .bool c3:=he 46 (by kernel_rfl)
      cases c3 with
      | false=>exact .inr ⟨wanted_no (d:=63) rfl (by kernel_rfl) hg,rfl⟩
      | true =>
        refine .inl ⟨wanted_yes (d:=63) rfl (by kernel_rfl) hg,?_⟩
        have h1:A.tmps[1]?.getD undef = .pointer (some ⟨g,0,none⟩):=hk 1 (by rfl)
        go_simp
        exact ⟨rfl,Below.refl _ _⟩
    · injection ho with ho;subst ho
      have hg:A.tmps[63]?.getD undef = .bool c3:=he 46 (by kernel_rfl)
      cases c3 with
      | false=>exact .inr ⟨wanted_no (d:=63) rfl (by kernel_rfl) hg,rfl⟩
      | true =>
        refine .inl ⟨wanted_yes (d:=63) rfl (by kernel_rfl) hg,?_⟩
        have h70:A.tmps[70]?.getD undef = .pointer (some ⟨g,5,none⟩):=he 53 (by kernel_rfl)
        have c0:=(HA1.out.below hW HA1.out.lt).cell 5
        go_simp
        exact ⟨rfl,Below.refl _ _⟩
    · injection ho with ho;subst ho
      have hg:A.tmps[63]?.getD undef = .bool c3:=he 46 (by kernel_rfl)
      cases c3 with
      | false=>exact .inr ⟨wanted_no (d:=63) rfl (by kernel_rfl) hg,rfl⟩
      | true =>
        refine .inl ⟨wanted_yes (d:=63) rfl (by kernel_rfl) hg,?_⟩
        have h71:A.tmps[71]?.getD undef = .pointer pb:=he 54 (by kernel_rfl)
        go_simp
        exact ⟨rfl,Below.refl _ _⟩
    · injection ho with ho;subst ho
      have hg:A.tmps[63]?.getD undef = .bool c3:=he 46 (by kernel_rfl)
      cases c3 with
      | false=>exact .inr ⟨wanted_no (d:=63) rfl (by kernel_rfl) hg,rfl⟩
      | true =>
        refine .inl ⟨wanted_yes (d:=63) rfl (by kernel_rfl) hg,?_⟩
        have h65:A.tmps[65]?.getD undef = .bool b4:=he 48 (by kernel_rfl)
        have h69:A.tmps[69]?.getD undef = .bool z4:=he 52 (by kernel_rfl)
        have h72:A.tmps[72]?.getD undef = .bool y4:=he 55 (by kernel_rfl)
        go_simp
        refine Calls.mono (fit_made W E4.out) ?_
        rintro e' w' ⟨rfl,hb⟩
        exact ⟨_,rfl,rfl,hb⟩
    · injection ho with ho;subst ho
      refine .inl ⟨wanted_free rfl,?_⟩
      have h63:A.tmps[63]?.getD undef = .bool c3:=he 46 (by kernel_rfl)
      cases c3 with
      | false =>
        have hr:false=c4:=by rw [HC4.out];rfl
        go_simp
        exact ⟨by rw [<- hr];rfl,Below.refl _ _⟩
      | true =>
        have hr:r4=c4:=by rw [HC4.out];rfl
        have ha:A.tmps[73]?.getD undef = .bool r4:=he 56 (by kernel_rfl)
        go_simp
        exact ⟨by rw [<- hr];rfl,Below.refl _ _⟩
    · injection ho with ho;subst ho
      refine .inl ⟨wanted_free rfl,?_⟩
      have h74:A.tmps[74]?.getD undef = .bool c4:=he 57 (by kernel_rfl)
      go_simp
      exact ⟨rfl,Below.refl _ _⟩
    · injection ho with ho;subst ho
      have hg:A.tmps[75]?.getD undef = .bool c4:=he 58 (by kernel_rfl)
      cases c4 with
      | false=>exact .inr ⟨wanted_no (d:=75) rfl (by kernel_rfl) hg,rfl⟩
      | true =>
        refine .inl ⟨wanted_yes (d:=75) rfl (by kernel_rfl) hg,?_⟩
        have h3:A.tmps[3]?.getD undef = .pointer (some ⟨gp,0,none⟩):=hk 3 (by rfl)
        go_simp
        exact ⟨rfl,Below.refl _ _⟩
    · injection ho with ho;subst ho
      have hg:A.tmps[75]?.getD undef = .bool c4:=he 58 (by kernel_rfl)
      cases c4 with
      | false=>exact .inr ⟨wanted_no (d:=75) rfl (by kernel_rfl) hg,rfl⟩
      | true =>
        refine .inl ⟨wanted_yes (d:=75) rfl (by kernel_rfl) hg,?_⟩
        have h76:A.tmps[76]?.getD undef = .pointer (some ⟨gp,5,none⟩):=he 59 (by kernel_rfl)
        have c0:=(HP1.out.below hW HP1.out.lt).cell 5
        go_simp
        exact ⟨rfl,Below.refl _ _⟩
    · injection ho with ho;subst ho
      have hg:A.tmps[75]?.getD undef = .bool c4:=he 58 (by kernel_rfl)
      cases c4 with
      | false=>exact .inr ⟨wanted_no (d:=75) rfl (by kernel_rfl) hg,rfl⟩
      | true =>
        refine .inl ⟨wanted_yes (d:=75) rfl (by kernel_rfl) hg,?_⟩
        have h1:A.tmps[1]?.getD undef = .pointer (some ⟨g,0,none⟩):=hk 1 (by rfl)
        go_simp
        exact ⟨rfl,Below.refl _ _⟩
    · injection ho with ho;subst ho
      have hg:A.tmps[75]?.getD undef = .bool c4:=he 58 (by kernel_rfl)
      cases c4 with
      | false=>exact .inr ⟨wanted_no (d:=75) rfl (by kernel_rfl) hg,rfl⟩
      | true =>
        refine .inl ⟨wanted_yes (d:=75) rfl (by kernel_rfl) hg,?_⟩
        have h78:A.tmps[78]?.getD undef = .pointer (some ⟨g,6,none⟩):=he 61 (by kernel_rfl)
        have c0:=(HA1.out.below hW HA1.out.lt).cell 6
        go_simp
        exact ⟨rfl,Below.refl _ _⟩
    · injection ho with ho;subst ho
      have hg:A.tmps[75]?.getD undef = .bool c4:=he 58 (by kernel_rfl)
      cases c4 with
      | false=>exact .inr ⟨wanted_no (d:=75) rfl (by kernel_rfl) hg,rfl⟩
      | true =>
        refine .inl ⟨wanted_yes (d:=75) rfl (by kernel_rfl) hg,?_⟩
        have h79:A.tmps[79]?.getD undef = .slice pt nt ct:=he 62 (by kernel_rfl)
        go_simp
        exact ⟨rfl,Below.refl _ _⟩
    · injection ho with ho;subst ho
      have hg:A.tmps[75]?.getD undef = .bool c4:=he 58 (by kernel_rfl)
      cases c4 with
      | false=>exact .inr ⟨wanted_no (d:=75) rfl (by kernel_rfl) hg,rfl⟩
      | true =>
        refine .inl ⟨wanted_yes (d:=75) rfl (by kernel_rfl) hg,?_⟩
        have h80:A.tmps[80]?.getD undef = .int .i64 nt:=he 63 (by kernel_rfl)
        go_simp
        exact ⟨rfl,Below.refl _ _⟩
    · injection ho with ho;subst ho
      have hg:A.tmps[75]?.getD undef = .bool c4:=he 58 (by kernel_rfl)
      cases c4 with
      | false=>exact .inr ⟨wanted_no (d:=75) rfl (by kernel_rfl) hg,rfl⟩
      | true =>
        refine .inl ⟨wanted_yes (d:=75) rfl (by kernel_rfl) hg,?_⟩
        have h77:A.tmps[77]?.getD undef = .bool b5:=he 60 (by kernel_rfl)
        have h81:A.tmps[81]?.getD undef = .bool ((nt:Int) == 0):=he 64 (by kernel_rfl)
        go_simp
        refine Calls.mono (fit_made W E5.out) ?_
        rintro e' w' ⟨rfl,hb⟩
        exact ⟨_,rfl,rfl,hb⟩
    · injection ho with ho;subst ho
      refine .inl ⟨wanted_free rfl,?_⟩
      have h75:A.tmps[75]?.getD undef = .bool c4:=he 58 (by kernel_rfl)
      cases c4 with
      | false =>
        have hr:false=c5:=by rw [HC5.out];rfl
        go_simp
        exact ⟨by rw [<- hr];rfl,Below.refl _ _⟩
      | true =>
        have hr:r5=c5:=by rw [HC5.out];rfl
        have ha:A.tmps[82]?.getD undef = .bool r5:=he 65 (by kernel_rfl)
        go_simp
        exact ⟨by rw [<- hr];rfl,Below.refl _ _⟩
    · injection ho with ho;subst ho
      refine .inl ⟨wanted_free rfl,?_⟩
      have h83:A.tmps[83]?.getD undef = .bool c5:=he 66 (by kernel_rfl)
      go_simp
      exact ⟨rfl,Below.refl _ _⟩
    · injection ho with ho;subst ho
      have hg:A.tmps[84]?.getD undef = .bool c5:=he 67 (by kernel_rfl)
      cases c5 with
      | false=>exact .inr ⟨wanted_no (d:=84) rfl (by kernel_rfl) hg,rfl⟩
      | true =>
        refine .inl ⟨wanted_yes (d:=84) rfl (by kernel_rfl) hg,?_⟩
        have h3:A.tmps[3]?.getD undef = .pointer (some ⟨gp,0,none⟩):=hk 3 (by rfl)
        go_simp
        exact ⟨rfl,Below.refl _ _⟩
    · injection ho with ho;subst ho
      have hg:A.tmps[84]?.getD undef = .bool c5:=he 67 (by kernel_rfl)
      cases c5 with
      | false=>exact .inr ⟨wanted_no (d:=84) rfl (by kernel_rfl) hg,rfl⟩
      | true =>
        refine .inl ⟨wanted_yes (d:=84) rfl (by kernel_rfl) hg,?_⟩
        have h85:A.tmps[85]?.getD undef = .pointer (some ⟨gp,6,none⟩):=he 68 (by kernel_rfl)
        have c0:=(HP1.out.below hW HP1.out.lt).cell 6
        go_simp
        exact ⟨rfl,Below.refl _ _⟩
    · injection ho with ho;subst ho
      have hg:A.tmps[84]?.getD undef = .bool c5:=he 67 (by kernel_rfl)
      cases c5 with
      | false=>exact .inr ⟨wanted_no (d:=84) rfl (by kernel_rfl) hg,rfl⟩
      | true =>
        refine .inl ⟨wanted_yes (d:=84) rfl (by kernel_rfl) hg,?_⟩
        have h1:A.tmps[1]?.getD undef = .pointer (some ⟨g,0,none⟩):=hk 1 (by rfl)
        go_simp
        exact ⟨rfl,Below.refl _ _⟩
    · injection ho with ho;subst ho
      have hg:A.tmps[84]?.getD undef = .bool c5:=he 67 (by kernel_rfl)
      cases c5 with
      | false=>exact .inr ⟨wanted_no (d:=84) rfl (by kernel_rfl) hg,rfl⟩
      | true =>
        refine .inl ⟨wanted_yes (d:=84) rfl (by kernel_rfl) hg,?_⟩
        have h87:A.tmps[87]?.getD undef = .pointer (some ⟨g,7,none⟩):=he 70 (by kernel_rfl)
        have c0:=(HA1.out.below hW HA1.out.lt).cell 7
        go_simp
        exact ⟨rfl,Below.refl _ _⟩
    · injection ho with ho;subst ho
      have hg:A.tmps[84]?.getD undef = .bool c5:=he 67 (by kernel_rfl)
      cases c5 with
      | false=>exact .inr ⟨wanted_no (d:=84) rfl (by kernel_rfl) hg,rfl⟩
      | true =>
        refine .inl ⟨wanted_yes (d:=84) rfl (by kernel_rfl) hg,?_⟩
        have h88:A.tmps[88]?.getD undef = .slice pe ne ce:=he 71 (by kernel_rfl)
        go_simp
        exact ⟨rfl,Below.refl _ _⟩
    · injection ho with ho;subst ho
      have hg:A.tmps[84]?.getD undef = .bool c5:=he 67 (by kernel_rfl)
      cases c5 with
      | false=>exact .inr ⟨wanted_no (d:=84) rfl (by kernel_rfl) hg,rfl⟩
      | true =>
        refine .inl ⟨wanted_yes (d:=84) rfl (by kernel_rfl) hg,?_⟩
        have h89:A.tmps[89]?.getD undef = .int .i64 ne:=he 72 (by kernel_rfl)
        go_simp
        exact ⟨rfl,Below.refl _ _⟩
    · injection ho with ho;subst ho
      have hg:A.tmps[84]?.getD undef = .bool c5:=he 67 (by kernel_rfl)
      cases c5 with
      | false=>exact .inr ⟨wanted_no (d:=84) rfl (by kernel_rfl) hg,rfl⟩
      | true =>
        refine .inl ⟨wanted_yes (d:=84) rfl (by kernel_rfl) hg,?_⟩
        have h86:A.tmps[86]?.getD undef = .bool b6:=he 69 (by kernel_rfl)
        have h90:A.tmps[90]?.getD undef = .bool ((ne:Int) == 0):=he 73 (by kernel_rfl)
        go_simp
        refine Calls.mono (fit_made W E6.out) ?_
        rintro e' w' ⟨rfl,hb⟩
        exact ⟨_,rfl,rfl,hb⟩
    · injection ho with ho;subst ho
      refine .inl ⟨wanted_free rfl,?_⟩
      have h84:A.tmps[84]?.getD undef = .bool c5:=he 67 (by kernel_rfl)
      cases c5 with
      | false =>
        have hr:false=c6:=by rw [HC6.out];rfl
        go_simp
        exact ⟨by rw [<- hr];rfl,Below.refl _ _⟩
      | true =>
        have hr:r6=c6:=by rw [HC6.out];rfl
        have ha:A.tmps[91]?.getD undef = .bool r6:=he 74 (by kernel_rfl)
        go_simp
        exact ⟨by rw [<- hr];rfl,Below.refl _ _⟩
  · intro xs W hW hV
    have e92:xs 75 = .bool c6:=hV 75 (by simp)
    go_wp2_with fail
    go_ret
    refine ⟨Eq.trans (b:=Ending.returned (xs 75)) (by kernel_rfl) (by rw [e92,HE.out]),HL1.out.trans (hW.mono HL1.out.size)⟩
theorem stMay_any (m:Mk) (pa pb pt pe:Option Addr) (nt ct ne ce:Nat) (w:World) (hf:FineM m) (hT:KindAt w) (ha:Tree w (trO m.a) (.pointer pa)) (hb:Tree w (trO m.b) (.pointer pb)) :
    Calls Tryz.prog 141 #[stAgg m (.pointer pa) (.pointer pb) (.slice pt nt ct) (.slice pe ne ce)] w fun e w'=>Made (.returned (.bool (stMay m nt ne))) w e w':=by
  by_cases h:m.kind=0 \/ 10<=m.kind
  · exact stMay_none m pa pb pt pe nt ct ne ce w hf.kind h
  · exact stMay_walk m pa pb pt pe nt ct ne ce w (by omega) (by omega) hf hT ha hb
end Go.Proofs.YtagebkachdmnbaaGreatDoor.Chk
end
