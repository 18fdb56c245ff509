/- Part 38 of the proof: what is used of the texts TelC. -/
import Derived.Test.YtbkdappgmcebaaaGreatDoorLD6
import Derived.Test.YtbkdappgmcebaaaGreatDoorLC1
section
namespace Go.Proofs.YtbkdappgmcebaaaGreatDoor.Chk
open Go.RowKit Go.Proofs.YtbkdappgmcebaaaGreatDoor.Mem Go.Proofs.YtbkdappgmcebaaaGreatDoor.Expr Go.Proofs.YtbkdappgmcebaaaGreatDoor.Prog Go.Lib
def mkAgg (x:Prog.Mark) (av bv:Value):Value:=.agg #[.int .u8 x.kind,.int .u8 x.reg,.int .u8 x.mode,.int .u8 x.loc,av,bv]
def rregK (k:Nat):Bool:=decide (k=1) || decide (k=2) || decide (k=4) || decide (k=5) || decide (k=6)
def ratK (k:Nat):Bool:=decide (1<k) && decide (k<7)
def raK (k:Nat):Bool:=!decide (k=2) && !decide (k=7)
def rmarkF (x:Prog.Mark):Bool :=
  if x.kind=0 then true else if 9<x.kind then false else
  rmodeF x.kind x.mode && ((if rregK x.kind then decide (x.reg<=7) else decide (x.reg=0)) && ((if ratK x.kind then isLoc x.loc else decide (x.loc=0)) &&
    ((if raK x.kind then rexF x.a false else decide (x.a.length=0)) && (if x.kind=6 then rexF x.b false else decide (x.b.length=0)))))
set_option maxRecDepth 100000 in
private theorem mark0 (rg md lc:Nat) (la lb:List It) (av bv:Value) (w:World):Calls Tryz.prog 59 #[mkAgg (Prog.Mark.mk 0 rg md lc la lb) av bv] w fun e w'=>Made (.returned (.bool true)) w e w':=by
  simp only [mkAgg]
  go_enter Tryz.func59,Tryz.ntmps59
  go_wp2_with fail
  go_ret
  exact ⟨rfl,(Below.refl _ _).alloc (Nat.le_refl _) _⟩
set_option maxRecDepth 100000 in
private theorem mark10 (k rg md lc:Nat) (la lb:List It) (av bv:Value) (w:World) (hk:9<k):Calls Tryz.prog 59 #[mkAgg (Prog.Mark.mk k rg md lc la lb) av bv] w fun e w'=>Made (.returned (.bool false)) w e w':=by
  simp only [mkAgg]
  have n0:((k:Int) == 0)=false:=beq_eq_false_iff_ne.2 (by omega)
  have n1:(9:Int)<(k:Int):=by omega
  clear hk
  go_enter Tryz.func59,Tryz.ntmps59
  go_wp2_with fail
  go_ret
  exact ⟨rfl,(Below.refl _ _).alloc (Nat.le_refl _) _⟩
set_option maxRecDepth 100000 in
set_option maxHeartbeats 2000000 in
private theorem mark1 (rg md lc:Nat) (la lb:List It) (av bv:Value) (w:World) (ha:Row w av la) (hb:Row w bv lb) (r:Bool) (hr:r=(rmodeF 1 md && (decide (rg<=7) && (decide (lc=0) && (rexF la false && decide (lb.length=0)))))):Calls Tryz.prog 59 #[mkAgg (Prog.Mark.mk 1 rg md lc la lb) av bv] w fun e w'=>Made (.returned (.bool r)) w e w':=by
  obtain ⟨pa,ca,rfl,hla⟩:=ha.len
  obtain ⟨pb,cb,rfl,hlb⟩:=hb.len
  have ja:(la.length:Int)<=1000000:=by omega
  have jb:(lb.length:Int)<=1000000:=by omega
  have HA:=Lib.hid ha
  have HB:=Lib.hid hb
  have HR:=Lib.hid hr
  have HM:=rmode6_any 1 md
  have HB0:Hid (Below w.heap.size w (w.alloc (.cells #[.int .u8 1,.int .u8 (rg:Nat),.int .u8 (md:Nat),.int .u8 (lc:Nat),.slice pa la.length ca,.slice pb lb.length cb] 95))):=Lib.hid ((Below.refl _ _).alloc (Nat.le_refl _) _)
  have HBX:=Lib.hid (Sits.new w 95 #[.int .u8 1,.int .u8 (rg:Nat),.int .u8 (md:Nat),.int .u8 (lc:Nat),.slice pa la.length ca,.slice pb lb.length cb])
  simp only [mkAgg]
  clear ha hb hla hlb hr
  go_enter Tryz.func59,Tryz.ntmps59
  go_wp2_with fail
  refine (HM _).mono ?_
  rintro e w' ⟨rfl,rfl⟩
  generalize w.alloc (.cells #[.int .u8 1,.int .u8 (rg:Nat),.int .u8 (md:Nat),.int .u8 (lc:Nat),.slice pa la.length ca,.slice pb lb.length cb] 95)=w0 at HB0 HBX ⊢
  generalize w.heap.size=gb at HBX ⊢
  have c0:w0.cell? ⟨gb,0,none⟩=some (.int .u8 1):=HBX.out.cell 0
  have c1:w0.cell? ⟨gb,1,none⟩=some (.int .u8 (rg:Nat)):=HBX.out.cell 1
  have c3:w0.cell? ⟨gb,3,none⟩=some (.int .u8 (lc:Nat)):=HBX.out.cell 3
  have c4:w0.cell? ⟨gb,4,none⟩=some (.slice pa la.length ca):=HBX.out.cell 4
  have c5:w0.cell? ⟨gb,5,none⟩=some (.slice pb lb.length cb):=HBX.out.cell 5
  have l0:=HBX.out.lt
  have hr:=HR.out
  clear HM HR
  cases hm:rmodeF 1 md with
  | false =>
    rw [hm,Bool.false_and] at hr
    clear hm
    have HF:=Lib.hid hr
    clear hr
    go_wp2_with fail
    go_ret
    exact ⟨by have hf:=HF.out;subst hf;rfl,HB0.out⟩
  | true =>
    rw [hm,Bool.true_and] at hr
    clear hm
    by_cases h1:rg<=7
    case neg =>
      rw [decide_eq_false h1,Bool.false_and] at hr
      have a1:(7:Int)<(rg:Int):=by omega
      clear h1
      have HF:=Lib.hid hr
      clear hr
      go_wp2_with fail
      go_ret
      exact ⟨by have hf:=HF.out;subst hf;rfl,HB0.out⟩
    rw [decide_eq_true h1,Bool.true_and] at hr
    have a1:¬ ((7:Int)<(rg:Int)):=by omega
    clear h1
    by_cases h3:lc=0
    case neg =>
      rw [decide_eq_false h3,Bool.false_and] at hr
      have a3:((lc:Int) != 0)=true:=bne_iff_ne.2 (by omega)
      clear h3
      have HF:=Lib.hid hr
      clear hr
      go_wp2_with fail
      go_ret
      exact ⟨by have hf:=HF.out;subst hf;rfl,HB0.out⟩
    rw [decide_eq_true h3,Bool.true_and] at hr
    subst h3
    have HR:=Lib.hid hr
    clear hr
    go_wp2_with fail
    refine (rex_any la false _ _ (HA.out.below HB0.out)).mono ?_
    rintro e w1 ⟨rfl,hb1⟩
    have HB1:=Lib.hid (HB0.out.trans (hb1.mono HB0.out.size))
    have d0:w1.cell? ⟨gb,0,none⟩=some (.int .u8 1):=(HBX.out.below hb1 HBX.out.lt).cell 0
    have d5:w1.cell? ⟨gb,5,none⟩=some (.slice pb lb.length cb):=(HBX.out.below hb1 HBX.out.lt).cell 5
    have l1:=(HBX.out.below hb1 HBX.out.lt).lt
    have HBY:=Lib.hid (HBX.out.below hb1 HBX.out.lt)
    have hr:=HR.out
    clear HR c0 c1 c3 c4 c5 l0 hb1
    cases hx:rexF la false with
    | false =>
      rw [hx,Bool.false_and] at hr
      clear hx
      have HF:=Lib.hid hr
      clear hr
      go_wp2_with fail
      go_ret
      exact ⟨by have hf:=HF.out;subst hf;rfl,HB1.out⟩
    | true =>
    rw [hx,Bool.true_and] at hr
    clear hx
    by_cases h5:lb.length=0
    · rw [decide_eq_true h5] at hr
      have a5:((lb.length:Int) == 0)=true:=beq_iff_eq.2 (by omega)
      clear h5
      have HF:=Lib.hid hr
      clear hr
      go_wp2_with fail
      go_ret
      exact ⟨by have hf:=HF.out;subst hf;rfl,HB1.out⟩
    · rw [decide_eq_false h5] at hr
      have a5:((lb.length:Int) == 0)=false:=beq_eq_false_iff_ne.2 (by omega)
      clear h5
      have HF:=Lib.hid hr
      clear hr
      go_wp2_with fail
      go_ret
      exact ⟨by have hf:=HF.out;subst hf;rfl,HB1.out⟩
set_option maxRecDepth 100000 in
set_option maxHeartbeats 2000000 in
private theorem mark2 (rg md lc:Nat) (la lb:List It) (av bv:Value) (w:World) (ha:Row w av la) (hb:Row w bv lb) (r:Bool) (hr:r=(rmodeF 2 md && (decide (rg<=7) && (isLoc lc && (decide (la.length=0) && decide (lb.length=0)))))):Calls Tryz.prog 59 #[mkAgg (Prog.Mark.mk 2 rg md lc la lb) av bv] w fun e w'=>Made (.returned (.bool r)) w e w':=by
  obtain ⟨pa,ca,rfl,hla⟩:=ha.len
  obtain ⟨pb,cb,rfl,hlb⟩:=hb.len
  have ja:(la.length:Int)<=1000000:=by omega
  have jb:(lb.length:Int)<=1000000:=by omega
  have HA:=Lib.hid ha
  have HB:=Lib.hid hb
  have HR:=Lib.hid hr
  have HM:=rmode6_any 2 md
  have HB0:Hid (Below w.heap.size w (w.alloc (.cells #[.int .u8 2,.int .u8 (rg:Nat),.int .u8 (md:Nat),.int .u8 (lc:Nat),.slice pa la.length ca,.slice pb lb.length cb] 95))):=Lib.hid ((Below.refl _ _).alloc (Nat.le_refl _) _)
  have HBX:=Lib.hid (Sits.new w 95 #[.int .u8 2,.int .u8 (rg:Nat),.int .u8 (md:Nat),.int .u8 (lc:Nat),.slice pa la.length ca,.slice pb lb.length cb])
  simp only [mkAgg]
  clear ha hb hla hlb hr
  go_enter Tryz.func59,Tryz.ntmps59
  go_wp2_with fail
  refine (HM _).mono ?_
  rintro e w' ⟨rfl,rfl⟩
  generalize w.alloc (.cells #[.int .u8 2,.int .u8 (rg:Nat),.int .u8 (md:Nat),.int .u8 (lc:Nat),.slice pa la.length ca,.slice pb lb.length cb] 95)=w0 at HB0 HBX ⊢
  generalize w.heap.size=gb at HBX ⊢
  have c0:w0.cell? ⟨gb,0,none⟩=some (.int .u8 2):=HBX.out.cell 0
  have c1:w0.cell? ⟨gb,1,none⟩=some (.int .u8 (rg:Nat)):=HBX.out.cell 1
  have c3:w0.cell? ⟨gb,3,none⟩=some (.int .u8 (lc:Nat)):=HBX.out.cell 3
  have c4:w0.cell? ⟨gb,4,none⟩=some (.slice pa la.length ca):=HBX.out.cell 4
  have c5:w0.cell? ⟨gb,5,none⟩=some (.slice pb lb.length cb):=HBX.out.cell 5
  have l0:=HBX.out.lt
  have hr:=HR.out
  clear HM HR
  cases hm:rmodeF 2 md with
  | false =>
    rw [hm,Bool.false_and] at hr
    clear hm
    have HF:=Lib.hid hr
    clear hr
    go_wp2_with fail
    go_ret
    exact ⟨by have hf:=HF.out;subst hf;rfl,HB0.out⟩
  | true =>
    rw [hm,Bool.true_and] at hr
    clear hm
    by_cases h1:rg<=7
    case neg =>
      rw [decide_eq_false h1,Bool.false_and] at hr
      have a1:(7:Int)<(rg:Int):=by omega
      clear h1
      have HF:=Lib.hid hr
      clear hr
      go_wp2_with fail
      go_ret
      exact ⟨by have hf:=HF.out;subst hf;rfl,HB0.out⟩
    rw [decide_eq_true h1,Bool.true_and] at hr
    have a1:¬ ((7:Int)<(rg:Int)):=by omega
    clear h1
    have HR:=Lib.hid hr
    clear hr
    go_wp2_with fail
    refine (rloc_any lc _).mono ?_
    rintro e w' ⟨rfl,rfl⟩
    have hr:=HR.out
    clear HR
    cases hl:isLoc lc with
    | false =>
      rw [hl,Bool.false_and] at hr
      clear hl
      have HF:=Lib.hid hr
      clear hr
      go_wp2_with fail
      go_ret
      exact ⟨by have hf:=HF.out;subst hf;rfl,HB0.out⟩
    | true =>
    rw [hl,Bool.true_and] at hr
    clear hl
    by_cases h4:la.length=0
    case neg =>
      rw [decide_eq_false h4,Bool.false_and] at hr
      have a4:(0:Int)<(la.length:Int):=by omega
      clear h4
      have HF:=Lib.hid hr
      clear hr
      go_wp2_with fail
      go_ret
      exact ⟨by have hf:=HF.out;subst hf;rfl,HB0.out⟩
    rw [decide_eq_true h4,Bool.true_and] at hr
    have a4:¬ ((0:Int)<(la.length:Int)):=by omega
    clear h4
    by_cases h5:lb.length=0
    · rw [decide_eq_true h5] at hr
      have a5:((lb.length:Int) == 0)=true:=beq_iff_eq.2 (by omega)
      clear h5
      have HF:=Lib.hid hr
      clear hr
      go_wp2_with fail
      go_ret
      exact ⟨by have hf:=HF.out;subst hf;rfl,HB0.out⟩
    · rw [decide_eq_false h5] at hr
      have a5:((lb.length:Int) == 0)=false:=beq_eq_false_iff_ne.2 (by omega)
      clear h5
      have HF:=Lib.hid hr
      clear hr
      go_wp2_with fail
      go_ret
      exact ⟨by have hf:=HF.out;subst hf;rfl,HB0.out⟩
set_option maxRecDepth 100000 in
set_option maxHeartbeats 2000000 in
private theorem mark3 (rg md lc:Nat) (la lb:List It) (av bv:Value) (w:World) (ha:Row w av la) (hb:Row w bv lb) (r:Bool) (hr:r=(rmodeF 3 md && (decide (rg=0) && (isLoc lc && (rexF la false && decide (lb.length=0)))))):Calls Tryz.prog 59 #[mkAgg (Prog.Mark.mk 3 rg md lc la lb) av bv] w fun e w'=>Made (.returned (.bool r)) w e w':=by
  obtain ⟨pa,ca,rfl,hla⟩:=ha.len
  obtain ⟨pb,cb,rfl,hlb⟩:=hb.len
  have ja:(la.length:Int)<=1000000:=by omega
  have jb:(lb.length:Int)<=1000000:=by omega
  have HA:=Lib.hid ha
  have HB:=Lib.hid hb
  have HR:=Lib.hid hr
  have HM:=rmode6_any 3 md
  have HB0:Hid (Below w.heap.size w (w.alloc (.cells #[.int .u8 3,.int .u8 (rg:Nat),.int .u8 (md:Nat),.int .u8 (lc:Nat),.slice pa la.length ca,.slice pb lb.length cb] 95))):=Lib.hid ((Below.refl _ _).alloc (Nat.le_refl _) _)
  have HBX:=Lib.hid (Sits.new w 95 #[.int .u8 3,.int .u8 (rg:Nat),.int .u8 (md:Nat),.int .u8 (lc:Nat),.slice pa la.length ca,.slice pb lb.length cb])
  simp only [mkAgg]
  clear ha hb hla hlb hr
  go_enter Tryz.func59,Tryz.ntmps59
  go_wp2_with fail
  refine (HM _).mono ?_
  rintro e w' ⟨rfl,rfl⟩
  generalize w.alloc (.cells #[.int .u8 3,.int .u8 (rg:Nat),.int .u8 (md:Nat),.int .u8 (lc:Nat),.slice pa la.length ca,.slice pb lb.length cb] 95)=w0 at HB0 HBX ⊢
  generalize w.heap.size=gb at HBX ⊢
  have c0:w0.cell? ⟨gb,0,none⟩=some (.int .u8 3):=HBX.out.cell 0
  have c1:w0.cell? ⟨gb,1,none⟩=some (.int .u8 (rg:Nat)):=HBX.out.cell 1
  have c3:w0.cell? ⟨gb,3,none⟩=some (.int .u8 (lc:Nat)):=HBX.out.cell 3
  have c4:w0.cell? ⟨gb,4,none⟩=some (.slice pa la.length ca):=HBX.out.cell 4
  have c5:w0.cell? ⟨gb,5,none⟩=some (.slice pb lb.length cb):=HBX.out.cell 5
  have l0:=HBX.out.lt
  have hr:=HR.out
  clear HM HR
  cases hm:rmodeF 3 md with
  | false =>
    rw [hm,Bool.false_and] at hr
    clear hm
    have HF:=Lib.hid hr
    clear hr
    go_wp2_with fail
    go_ret
    exact ⟨by have hf:=HF.out;subst hf;rfl,HB0.out⟩
  | true =>
    rw [hm,Bool.true_and] at hr
    clear hm
    by_cases h1:rg=0
    case neg =>
      rw [decide_eq_false h1,Bool.false_and] at hr
      by_cases h2:7<rg
      · have a1:(7:Int)<(rg:Int):=by omega
        clear h1 h2
        have HF:=Lib.hid hr
        clear hr
        go_wp2_with fail
        go_ret
        exact ⟨by have hf:=HF.out;subst hf;rfl,HB0.out⟩
      · have a1:¬ ((7:Int)<(rg:Int)):=by omega
        have a2:(0:Int)<(rg:Int):=by omega
        clear h1 h2
        have HF:=Lib.hid hr
        clear hr
        go_wp2_with fail
        go_ret
        exact ⟨by have hf:=HF.out;subst hf;rfl,HB0.out⟩
    rw [decide_eq_true h1,Bool.true_and] at hr
    subst h1
    have HR:=Lib.hid hr
    clear hr
    go_wp2_with fail
    refine (rloc_any lc _).mono ?_
    rintro e w' ⟨rfl,rfl⟩
    have hr:=HR.out
    clear HR
    cases hl:isLoc lc with
    | false =>
      rw [hl,Bool.false_and] at hr
      clear hl
      have HF:=Lib.hid hr
      clear hr
      go_wp2_with fail
      go_ret
      exact ⟨by have hf:=HF.out;subst hf;rfl,HB0.out⟩
    | true =>
    rw [hl,Bool.true_and] at hr
    clear hl
    have HR:=Lib.hid hr
    clear hr
    go_wp2_with fail
    refine (rex_any la false _ _ (HA.out.below HB0.out)).mono ?_
    rintro e w1 ⟨rfl,hb1⟩
    have HB1:=Lib.hid (HB0.out.trans (hb1.mono HB0.out.size))
    have d0:w1.cell? ⟨gb,0,none⟩=some (.int .u8 3):=(HBX.out.below hb1 HBX.out.lt).cell 0
    have d5:w1.cell? ⟨gb,5,none⟩=some (.slice pb lb.length cb):=(HBX.out.below hb1 HBX.out.lt).cell 5
    have l1:=(HBX.out.below hb1 HBX.out.lt).lt
    have HBY:=Lib.hid (HBX.out.below hb1 HBX.out.lt)
    have hr:=HR.out
    clear HR c0 c1 c3 c4 c5 l0 hb1
    cases hx:rexF la false with
    | false =>
      rw [hx,Bool.false_and] at hr
      clear hx
      have HF:=Lib.hid hr
      clear hr
      go_wp2_with fail
      go_ret
      exact ⟨by have hf:=HF.out;subst hf;rfl,HB1.out⟩
    | true =>
    rw [hx,Bool.true_and] at hr
    clear hx
    by_cases h5:lb.length=0
    · rw [decide_eq_true h5] at hr
      have a5:((lb.length:Int) == 0)=true:=beq_iff_eq.2 (by omega)
      clear h5
      have HF:=Lib.hid hr
      clear hr
      go_wp2_with fail
      go_ret
      exact ⟨by have hf:=HF.out;subst hf;rfl,HB1.out⟩
    · rw [decide_eq_false h5] at hr
      have a5:((lb.length:Int) == 0)=false:=beq_eq_false_iff_ne.2 (by omega)
      clear h5
      have HF:=Lib.hid hr
      clear hr
      go_wp2_with fail
      go_ret
      exact ⟨by have hf:=HF.out;subst hf;rfl,HB1.out⟩
set_option maxRecDepth 100000 in
set_option maxHeartbeats 2000000 in
private theorem mark4 (rg md lc:Nat) (la lb:List It) (av bv:Value) (w:World) (ha:Row w av la) (hb:Row w bv lb) (r:Bool) (hr:r=(rmodeF 4 md && (decide (rg<=7) && (isLoc lc && (rexF la false && decide (lb.length=0)))))):Calls Tryz.prog 59 #[mkAgg (Prog.Mark.mk 4 rg md lc la lb) av bv] w fun e w'=>Made (.returned (.bool r)) w e w':=by
  obtain ⟨pa,ca,rfl,hla⟩:=ha.len
  obtain ⟨pb,cb,rfl,hlb⟩:=hb.len
  have ja:(la.length:Int)<=1000000:=by omega
  have jb:(lb.length:Int)<=1000000:=by omega
  have HA:=Lib.hid ha
  have HB:=Lib.hid hb
  have HR:=Lib.hid hr
  have HM:=rmode6_any 4 md
  have HB0:Hid (Below w.heap.size w (w.alloc (.cells #[.int .u8 4,.int .u8 (rg:Nat),.int .u8 (md:Nat),.int .u8 (lc:Nat),.slice pa la.length ca,.slice pb lb.length cb] 95))):=Lib.hid ((Below.refl _ _).alloc (Nat.le_refl _) _)
  have HBX:=Lib.hid (Sits.new w 95 #[.int .u8 4,.int .u8 (rg:Nat),.int .u8 (md:Nat),.int .u8 (lc:Nat),.slice pa la.length ca,.slice pb lb.length cb])
  simp only [mkAgg]
  clear ha hb hla hlb hr
  go_enter Tryz.func59,Tryz.ntmps59
  go_wp2_with fail
  refine (HM _).mono ?_
  rintro e w' ⟨rfl,rfl⟩
  generalize w.alloc (.cells #[.int .u8 4,.int .u8 (rg:Nat),.int .u8 (md:Nat),.int .u8 (lc:Nat),.slice pa la.length ca,.slice pb lb.length cb] 95)=w0 at HB0 HBX ⊢
  generalize w.heap.size=gb at HBX ⊢
  have c0:w0.cell? ⟨gb,0,none⟩=some (.int .u8 4):=HBX.out.cell 0
  have c1:w0.cell? ⟨gb,1,none⟩=some (.int .u8 (rg:Nat)):=HBX.out.cell 1
  have c3:w0.cell? ⟨gb,3,none⟩=some (.int .u8 (lc:Nat)):=HBX.out.cell 3
  have c4:w0.cell? ⟨gb,4,none⟩=some (.slice pa la.length ca):=HBX.out.cell 4
  have c5:w0.cell? ⟨gb,5,none⟩=some (.slice pb lb.length cb):=HBX.out.cell 5
  have l0:=HBX.out.lt
  have hr:=HR.out
  clear HM HR
  cases hm:rmodeF 4 md with
  | false =>
    rw [hm,Bool.false_and] at hr
    clear hm
    have HF:=Lib.hid hr
    clear hr
    go_wp2_with fail
    go_ret
    exact ⟨by have hf:=HF.out;subst hf;rfl,HB0.out⟩
  | true =>
    rw [hm,Bool.true_and] at hr
    clear hm
    by_cases h1:rg<=7
    case neg =>
      rw [decide_eq_false h1,Bool.false_and] at hr
      have a1:(7:Int)<(rg:Int):=by omega
      clear h1
      have HF:=Lib.hid hr
      clear hr
      go_wp2_with fail
      go_ret
      exact ⟨by have hf:=HF.out;subst hf;rfl,HB0.out⟩
    rw [decide_eq_true h1,Bool.true_and] at hr
    have a1:¬ ((7:Int)<(rg:Int)):=by omega
    clear h1
    have HR:=Lib.hid hr
    clear hr
    go_wp2_with fail
    refine (rloc_any lc _).mono ?_
    rintro e w' ⟨rfl,rfl⟩
    have hr:=HR.out
    clear HR
    cases hl:isLoc lc with
    | false =>
      rw [hl,Bool.false_and] at hr
      clear hl
      have HF:=Lib.hid hr
      clear hr
      go_wp2_with fail
      go_ret
      exact ⟨by have hf:=HF.out;subst hf;rfl,HB0.out⟩
    | true =>
    rw [hl,Bool.true_and] at hr
    clear hl
    have HR:=Lib.hid hr
    clear hr
    go_wp2_with fail
    refine (rex_any la false _ _ (HA.out.below HB0.out)).mono ?_
    rintro e w1 ⟨rfl,hb1⟩
    have HB1:=Lib.hid (HB0.out.trans (hb1.mono HB0.out.size))
    have d0:w1.cell? ⟨gb,0,none⟩=some (.int .u8 4):=(HBX.out.below hb1 HBX.out.lt).cell 0
    have d5:w1.cell? ⟨gb,5,none⟩=some (.slice pb lb.length cb):=(HBX.out.below hb1 HBX.out.lt).cell 5
    have l1:=(HBX.out.below hb1 HBX.out.lt).lt
    have HBY:=Lib.hid (HBX.out.below hb1 HBX.out.lt)
    have hr:=HR.out
    clear HR c0 c1 c3 c4 c5 l0 hb1
    cases hx:rexF la false with
    | false =>
      rw [hx,Bool.false_and] at hr
      clear hx
      have HF:=Lib.hid hr
      clear hr
      go_wp2_with fail
      go_ret
      exact ⟨by have hf:=HF.out;subst hf;rfl,HB1.out⟩
    | true =>
    rw [hx,Bool.true_and] at hr
    clear hx
    by_cases h5:lb.length=0
    · rw [decide_eq_true h5] at hr
      have a5:((lb.length:Int) == 0)=true:=beq_iff_eq.2 (by omega)
      clear h5
      have HF:=Lib.hid hr
      clear hr
      go_wp2_with fail
      go_ret
      exact ⟨by have hf:=HF.out;subst hf;rfl,HB1.out⟩
    · rw [decide_eq_false h5] at hr
      have a5:((lb.length:Int) == 0)=false:=beq_eq_false_iff_ne.2 (by omega)
      clear h5
      have HF:=Lib.hid hr
      clear hr
      go_wp2_with fail
      go_ret
      exact ⟨by have hf:=HF.out;subst hf;rfl,HB1.out⟩
set_option maxRecDepth 100000 in
set_option maxHeartbeats 2000000 in
private theorem mark5 (rg md lc:Nat) (la lb:List It) (av bv:Value) (w:World) (ha:Row w av la) (hb:Row w bv lb) (r:Bool) (hr:r=(rmodeF 5 md && (decide (rg<=7) && (isLoc lc && (rexF la false && decide (lb.length=0)))))):Calls Tryz.prog 59 #[mkAgg (Prog.Mark.mk 5 rg md lc la lb) av bv] w fun e w'=>Made (.returned (.bool r)) w e w':=by
  obtain ⟨pa,ca,rfl,hla⟩:=ha.len
  obtain ⟨pb,cb,rfl,hlb⟩:=hb.len
  have ja:(la.length:Int)<=1000000:=by omega
  have jb:(lb.length:Int)<=1000000:=by omega
  have HA:=Lib.hid ha
  have HB:=Lib.hid hb
  have HR:=Lib.hid hr
  have HM:=rmode6_any 5 md
  have HB0:Hid (Below w.heap.size w (w.alloc (.cells #[.int .u8 5,.int .u8 (rg:Nat),.int .u8 (md:Nat),.int .u8 (lc:Nat),.slice pa la.length ca,.slice pb lb.length cb] 95))):=Lib.hid ((Below.refl _ _).alloc (Nat.le_refl _) _)
  have HBX:=Lib.hid (Sits.new w 95 #[.int .u8 5,.int .u8 (rg:Nat),.int .u8 (md:Nat),.int .u8 (lc:Nat),.slice pa la.length ca,.slice pb lb.length cb])
  simp only [mkAgg]
  clear ha hb hla hlb hr
  go_enter Tryz.func59,Tryz.ntmps59
  go_wp2_with fail
  refine (HM _).mono ?_
  rintro e w' ⟨rfl,rfl⟩
  generalize w.alloc (.cells #[.int .u8 5,.int .u8 (rg:Nat),.int .u8 (md:Nat),.int .u8 (lc:Nat),.slice pa la.length ca,.slice pb lb.length cb] 95)=w0 at HB0 HBX ⊢
  generalize w.heap.size=gb at HBX ⊢
  have c0:w0.cell? ⟨gb,0,none⟩=some (.int .u8 5):=HBX.out.cell 0
  have c1:w0.cell? ⟨gb,1,none⟩=some (.int .u8 (rg:Nat)):=HBX.out.cell 1
  have c3:w0.cell? ⟨gb,3,none⟩=some (.int .u8 (lc:Nat)):=HBX.out.cell 3
  have c4:w0.cell? ⟨gb,4,none⟩=some (.slice pa la.length ca):=HBX.out.cell 4
  have c5:w0.cell? ⟨gb,5,none⟩=some (.slice pb lb.length cb):=HBX.out.cell 5
  have l0:=HBX.out.lt
  have hr:=HR.out
  clear HM HR
  cases hm:rmodeF 5 md with
  | false =>
    rw [hm,Bool.false_and] at hr
    clear hm
    have HF:=Lib.hid hr
    clear hr
    go_wp2_with fail
    go_ret
    exact ⟨by have hf:=HF.out;subst hf;rfl,HB0.out⟩
  | true =>
    rw [hm,Bool.true_and] at hr
    clear hm
    by_cases h1:rg<=7
    case neg =>
      rw [decide_eq_false h1,Bool.false_and] at hr
      have a1:(7:Int)<(rg:Int):=by omega
      clear h1
      have HF:=Lib.hid hr
      clear hr
      go_wp2_with fail
      go_ret
      exact ⟨by have hf:=HF.out;subst hf;rfl,HB0.out⟩
    rw [decide_eq_true h1,Bool.true_and] at hr
    have a1:¬ ((7:Int)<(rg:Int)):=by omega
    clear h1
    have HR:=Lib.hid hr
    clear hr
    go_wp2_with fail
    refine (rloc_any lc _).mono ?_
    rintro e w' ⟨rfl,rfl⟩
    have hr:=HR.out
    clear HR
    cases hl:isLoc lc with
    | false =>
      rw [hl,Bool.false_and] at hr
      clear hl
      have HF:=Lib.hid hr
      clear hr
      go_wp2_with fail
      go_ret
      exact ⟨by have hf:=HF.out;subst hf;rfl,HB0.out⟩
    | true =>
    rw [hl,Bool.true_and] at hr
    clear hl
    have HR:=Lib.hid hr
    clear hr
    go_wp2_with fail
    refine (rex_any la false _ _ (HA.out.below HB0.out)).mono ?_
    rintro e w1 ⟨rfl,hb1⟩
    have HB1:=Lib.hid (HB0.out.trans (hb1.mono HB0.out.size))
    have d0:w1.cell? ⟨gb,0,none⟩=some (.int .u8 5):=(HBX.out.below hb1 HBX.out.lt).cell 0
    have d5:w1.cell? ⟨gb,5,none⟩=some (.slice pb lb.length cb):=(HBX.out.below hb1 HBX.out.lt).cell 5
    have l1:=(HBX.out.below hb1 HBX.out.lt).lt
    have HBY:=Lib.hid (HBX.out.below hb1 HBX.out.lt)
    have hr:=HR.out
    clear HR c0 c1 c3 c4 c5 l0 hb1
    cases hx:rexF la false with
    | false =>
      rw [hx,Bool.false_and] at hr
      clear hx
      have HF:=Lib.hid hr
      clear hr
      go_wp2_with fail
      go_ret
      exact ⟨by have hf:=HF.out;subst hf;rfl,HB1.out⟩
    | true =>
    rw [hx,Bool.true_and] at hr
    clear hx
    by_cases h5:lb.length=0
    · rw [decide_eq_true h5] at hr
      have a5:((lb.length:Int) == 0)=true:=beq_iff_eq.2 (by omega)
      clear h5
      have HF:=Lib.hid hr
      clear hr
      go_wp2_with fail
      go_ret
      exact ⟨by have hf:=HF.out;subst hf;rfl,HB1.out⟩
    · rw [decide_eq_false h5] at hr
      have a5:((lb.length:Int) == 0)=false:=beq_eq_false_iff_ne.2 (by omega)
      clear h5
      have HF:=Lib.hid hr
      clear hr
      go_wp2_with fail
      go_ret
      exact ⟨by have hf:=HF.out;subst hf;rfl,HB1.out⟩
set_option maxRecDepth 100000 in
set_option maxHeartbeats 2000000 in
private theorem mark6 (rg md lc:Nat) (la lb:List It) (av bv:Value) (w:World) (ha:Row w av la) (hb:Row w bv lb) (r:Bool) (hr:r=(rmodeF 6 md && (decide (rg<=7) && (isLoc lc && (rexF la false && rexF lb false))))):Calls Tryz.prog 59 #[mkAgg (Prog.Mark.mk 6 rg md lc la lb) av bv] w fun e w'=>Made (.returned (.bool r)) w e w':=by
  obtain ⟨pa,ca,rfl,hla⟩:=ha.len
  obtain ⟨pb,cb,rfl,hlb⟩:=hb.len
  have ja:(la.length:Int)<=1000000:=by omega
  have jb:(lb.length:Int)<=1000000:=by omega
  have HA:=Lib.hid ha
  have HB:=Lib.hid hb
  have HR:=Lib.hid hr
  have HM:=rmode6_any 6 md
  have HB0:Hid (Below w.heap.size w (w.alloc (.cells #[.int .u8 6,.int .u8 (rg:Nat),.int .u8 (md:Nat),.int .u8 (lc:Nat),.slice pa la.length ca,.slice pb lb.length cb] 95))):=Lib.hid ((Below.refl _ _).alloc (Nat.le_refl _) _)
  have HBX:=Lib.hid (Sits.new w 95 #[.int .u8 6,.int .u8 (rg:Nat),.int .u8 (md:Nat),.int .u8 (lc:Nat),.slice pa la.length ca,.slice pb lb.length cb])
  simp only [mkAgg]
  clear ha hb hla hlb hr
  go_enter Tryz.func59,Tryz.ntmps59
  go_wp2_with fail
  refine (HM _).mono ?_
  rintro e w' ⟨rfl,rfl⟩
  generalize w.alloc (.cells #[.int .u8 6,.int .u8 (rg:Nat),.int .u8 (md:Nat),.int .u8 (lc:Nat),.slice pa la.length ca,.slice pb lb.length cb] 95)=w0 at HB0 HBX ⊢
  generalize w.heap.size=gb at HBX ⊢
  have c0:w0.cell? ⟨gb,0,none⟩=some (.int .u8 6):=HBX.out.cell 0
  have c1:w0.cell? ⟨gb,1,none⟩=some (.int .u8 (rg:Nat)):=HBX.out.cell 1
  have c3:w0.cell? ⟨gb,3,none⟩=some (.int .u8 (lc:Nat)):=HBX.out.cell 3
  have c4:w0.cell? ⟨gb,4,none⟩=some (.slice pa la.length ca):=HBX.out.cell 4
  have c5:w0.cell? ⟨gb,5,none⟩=some (.slice pb lb.length cb):=HBX.out.cell 5
  have l0:=HBX.out.lt
  have hr:=HR.out
  clear HM HR
  cases hm:rmodeF 6 md with
  | false =>
    rw [hm,Bool.false_and] at hr
    clear hm
    have HF:=Lib.hid hr
    clear hr
    go_wp2_with fail
    go_ret
    exact ⟨by have hf:=HF.out;subst hf;rfl,HB0.out⟩
  | true =>
    rw [hm,Bool.true_and] at hr
    clear hm
    by_cases h1:rg<=7
    case neg =>
      rw [decide_eq_false h1,Bool.false_and] at hr
      have a1:(7:Int)<(rg:Int):=by omega
      clear h1
      have HF:=Lib.hid hr
      clear hr
      go_wp2_with fail
      go_ret
      exact ⟨by have hf:=HF.out;subst hf;rfl,HB0.out⟩
    rw [decide_eq_true h1,Bool.true_and] at hr
    have a1:¬ ((7:Int)<(rg:Int)):=by omega
    clear h1
    have HR:=Lib.hid hr
    clear hr
    go_wp2_with fail
    refine (rloc_any lc _).mono ?_
    rintro e w' ⟨rfl,rfl⟩
    have hr:=HR.out
    clear HR
    cases hl:isLoc lc with
    | false =>
      rw [hl,Bool.false_and] at hr
      clear hl
      have HF:=Lib.hid hr
      clear hr
      go_wp2_with fail
      go_ret
      exact ⟨by have hf:=HF.out;subst hf;rfl,HB0.out⟩
    | true =>
    rw [hl,Bool.true_and] at hr
    clear hl
    have HR:=Lib.hid hr
    clear hr
    go_wp2_with fail
    refine (rex_any la false _ _ (HA.out.below HB0.out)).mono ?_
    rintro e w1 ⟨rfl,hb1⟩
    have HB1:=Lib.hid (HB0.out.trans (hb1.mono HB0.out.size))
    have d0:w1.cell? ⟨gb,0,none⟩=some (.int .u8 6):=(HBX.out.below hb1 HBX.out.lt).cell 0
    have d5:w1.cell? ⟨gb,5,none⟩=some (.slice pb lb.length cb):=(HBX.out.below hb1 HBX.out.lt).cell 5
    have l1:=(HBX.out.below hb1 HBX.out.lt).lt
    have HBY:=Lib.hid (HBX.out.below hb1 HBX.out.lt)
    have hr:=HR.out
    clear HR c0 c1 c3 c4 c5 l0 hb1
    cases hx:rexF la false with
    | false =>
      rw [hx,Bool.false_and] at hr
      clear hx
      have HF:=Lib.hid hr
      clear hr
      go_wp2_with fail
      go_ret
      exact ⟨by have hf:=HF.out;subst hf;rfl,HB1.out⟩
    | true =>
    rw [hx,Bool.true_and] at hr
    clear hx
    have HR:=Lib.hid hr
    clear hr
    go_wp2_with fail
    refine (rex_any lb false _ _ (HB.out.below HB1.out)).mono ?_
    rintro e w2 ⟨rfl,hb2⟩
    have HB2:=Lib.hid (HB1.out.trans (hb2.mono HB1.out.size))
    have e0:w2.cell? ⟨gb,0,none⟩=some (.int .u8 6):=(HBY.out.below hb2 HBY.out.lt).cell 0
    have l2:=(HBY.out.below hb2 HBY.out.lt).lt
    have hr:=HR.out
    clear HR hb2
    cases hx:rexF lb false with
    | false =>
      rw [hx] at hr
      clear hx
      have HF:=Lib.hid hr
      clear hr
      go_wp2_with fail
      go_ret
      exact ⟨by have hf:=HF.out;subst hf;rfl,HB2.out⟩
    | true =>
      rw [hx] at hr
      clear hx
      have HF:=Lib.hid hr
      clear hr
      go_wp2_with fail
      go_ret
      exact ⟨by have hf:=HF.out;subst hf;rfl,HB2.out⟩
set_option maxRecDepth 100000 in
set_option maxHeartbeats 2000000 in
private theorem mark7 (rg md lc:Nat) (la lb:List It) (av bv:Value) (w:World) (ha:Row w av la) (hb:Row w bv lb) (r:Bool) (hr:r=(rmodeF 7 md && (decide (rg=0) && (decide (lc=0) && (decide (la.length=0) && decide (lb.length=0)))))):Calls Tryz.prog 59 #[mkAgg (Prog.Mark.mk 7 rg md lc la lb) av bv] w fun e w'=>Made (.returned (.bool r)) w e w':=by
  obtain ⟨pa,ca,rfl,hla⟩:=ha.len
  obtain ⟨pb,cb,rfl,hlb⟩:=hb.len
  have ja:(la.length:Int)<=1000000:=by omega
  have jb:(lb.length:Int)<=1000000:=by omega
  have HA:=Lib.hid ha
  have HB:=Lib.hid hb
  have HR:=Lib.hid hr
  have HM:=rmode6_any 7 md
  have HB0:Hid (Below w.heap.size w (w.alloc (.cells #[.int .u8 7,.int .u8 (rg:Nat),.int .u8 (md:Nat),.int .u8 (lc:Nat),.slice pa la.length ca,.slice pb lb.length cb] 95))):=Lib.hid ((Below.refl _ _).alloc (Nat.le_refl _) _)
  have HBX:=Lib.hid (Sits.new w 95 #[.int .u8 7,.int .u8 (rg:Nat),.int .u8 (md:Nat),.int .u8 (lc:Nat),.slice pa la.length ca,.slice pb lb.length cb])
  simp only [mkAgg]
  clear ha hb hla hlb hr
  go_enter Tryz.func59,Tryz.ntmps59
  go_wp2_with fail
  refine (HM _).mono ?_
  rintro e w' ⟨rfl,rfl⟩
  generalize w.alloc (.cells #[.int .u8 7,.int .u8 (rg:Nat),.int .u8 (md:Nat),.int .u8 (lc:Nat),.slice pa la.length ca,.slice pb lb.length cb] 95)=w0 at HB0 HBX ⊢
  generalize w.heap.size=gb at HBX ⊢
  have c0:w0.cell? ⟨gb,0,none⟩=some (.int .u8 7):=HBX.out.cell 0
  have c1:w0.cell? ⟨gb,1,none⟩=some (.int .u8 (rg:Nat)):=HBX.out.cell 1
  have c3:w0.cell? ⟨gb,3,none⟩=some (.int .u8 (lc:Nat)):=HBX.out.cell 3
  have c4:w0.cell? ⟨gb,4,none⟩=some (.slice pa la.length ca):=HBX.out.cell 4
  have c5:w0.cell? ⟨gb,5,none⟩=some (.slice pb lb.length cb):=HBX.out.cell 5
  have l0:=HBX.out.lt
  have hr:=HR.out
  clear HM HR
  cases hm:rmodeF 7 md with
  | false =>
    rw [hm,Bool.false_and] at hr
    clear hm
    have HF:=Lib.hid hr
    clear hr
    go_wp2_with fail
    go_ret
    exact ⟨by have hf:=HF.out;subst hf;rfl,HB0.out⟩
  | true =>
    rw [hm,Bool.true_and] at hr
    clear hm
    by_cases h1:rg=0
    case neg =>
      rw [decide_eq_false h1,Bool.false_and] at hr
      by_cases h2:7<rg
      · have a1:(7:Int)<(rg:Int):=by omega
        clear h1 h2
        have HF:=Lib.hid hr
        clear hr
        go_wp2_with fail
        go_ret
        exact ⟨by have hf:=HF.out;subst hf;rfl,HB0.out⟩
      · have a1:¬ ((7:Int)<(rg:Int)):=by omega
        have a2:(0:Int)<(rg:Int):=by omega
        clear h1 h2
        have HF:=Lib.hid hr
        clear hr
        go_wp2_with fail
        go_ret
        exact ⟨by have hf:=HF.out;subst hf;rfl,HB0.out⟩
    rw [decide_eq_true h1,Bool.true_and] at hr
    subst h1
    by_cases h3:lc=0
    case neg =>
      rw [decide_eq_false h3,Bool.false_and] at hr
      have a3:((lc:Int) != 0)=true:=bne_iff_ne.2 (by omega)
      clear h3
      have HF:=Lib.hid hr
      clear hr
      go_wp2_with fail
      go_ret
      exact ⟨by have hf:=HF.out;subst hf;rfl,HB0.out⟩
    rw [decide_eq_true h3,Bool.true_and] at hr
    subst h3
    by_cases h4:la.length=0
    case neg =>
      rw [decide_eq_false h4,Bool.false_and] at hr
      have a4:(0:Int)<(la.length:Int):=by omega
      clear h4
      have HF:=Lib.hid hr
      clear hr
      go_wp2_with fail
      go_ret
      exact ⟨by have hf:=HF.out;subst hf;rfl,HB0.out⟩
    rw [decide_eq_true h4,Bool.true_and] at hr
    have a4:¬ ((0:Int)<(la.length:Int)):=by omega
    clear h4
    by_cases h5:lb.length=0
    · rw [decide_eq_true h5] at hr
      have a5:((lb.length:Int) == 0)=true:=beq_iff_eq.2 (by omega)
      clear h5
      have HF:=Lib.hid hr
      clear hr
      go_wp2_with fail
      go_ret
      exact ⟨by have hf:=HF.out;subst hf;rfl,HB0.out⟩
    · rw [decide_eq_false h5] at hr
      have a5:((lb.length:Int) == 0)=false:=beq_eq_false_iff_ne.2 (by omega)
      clear h5
      have HF:=Lib.hid hr
      clear hr
      go_wp2_with fail
      go_ret
      exact ⟨by have hf:=HF.out;subst hf;rfl,HB0.out⟩
set_option maxRecDepth 100000 in
set_option maxHeartbeats 2000000 in
private theorem mark8 (rg md lc:Nat) (la lb:List It) (av bv:Value) (w:World) (ha:Row w av la) (hb:Row w bv lb) (r:Bool) (hr:r=(rmodeF 8 md && (decide (rg=0) && (decide (lc=0) && (rexF la false && decide (lb.length=0)))))):Calls Tryz.prog 59 #[mkAgg (Prog.Mark.mk 8 rg md lc la lb) av bv] w fun e w'=>Made (.returned (.bool r)) w e w':=by
  obtain ⟨pa,ca,rfl,hla⟩:=ha.len
  obtain ⟨pb,cb,rfl,hlb⟩:=hb.len
  have ja:(la.length:Int)<=1000000:=by omega
  have jb:(lb.length:Int)<=1000000:=by omega
  have HA:=Lib.hid ha
  have HB:=Lib.hid hb
  have HR:=Lib.hid hr
  have HM:=rmode6_any 8 md
  have HB0:Hid (Below w.heap.size w (w.alloc (.cells #[.int .u8 8,.int .u8 (rg:Nat),.int .u8 (md:Nat),.int .u8 (lc:Nat),.slice pa la.length ca,.slice pb lb.length cb] 95))):=Lib.hid ((Below.refl _ _).alloc (Nat.le_refl _) _)
  have HBX:=Lib.hid (Sits.new w 95 #[.int .u8 8,.int .u8 (rg:Nat),.int .u8 (md:Nat),.int .u8 (lc:Nat),.slice pa la.length ca,.slice pb lb.length cb])
  simp only [mkAgg]
  clear ha hb hla hlb hr
  go_enter Tryz.func59,Tryz.ntmps59
  go_wp2_with fail
  refine (HM _).mono ?_
  rintro e w' ⟨rfl,rfl⟩
  generalize w.alloc (.cells #[.int .u8 8,.int .u8 (rg:Nat),.int .u8 (md:Nat),.int .u8 (lc:Nat),.slice pa la.length ca,.slice pb lb.length cb] 95)=w0 at HB0 HBX ⊢
  generalize w.heap.size=gb at HBX ⊢
  have c0:w0.cell? ⟨gb,0,none⟩=some (.int .u8 8):=HBX.out.cell 0
  have c1:w0.cell? ⟨gb,1,none⟩=some (.int .u8 (rg:Nat)):=HBX.out.cell 1
  have c3:w0.cell? ⟨gb,3,none⟩=some (.int .u8 (lc:Nat)):=HBX.out.cell 3
  have c4:w0.cell? ⟨gb,4,none⟩=some (.slice pa la.length ca):=HBX.out.cell 4
  have c5:w0.cell? ⟨gb,5,none⟩=some (.slice pb lb.length cb):=HBX.out.cell 5
  have l0:=HBX.out.lt
  have hr:=HR.out
  clear HM HR
  cases hm:rmodeF 8 md with
  | false =>
    rw [hm,Bool.false_and] at hr
    clear hm
    have HF:=Lib.hid hr
    clear hr
    go_wp2_with fail
    go_ret
    exact ⟨by have hf:=HF.out;subst hf;rfl,HB0.out⟩
  | true =>
    rw [hm,Bool.true_and] at hr
    clear hm
    by_cases h1:rg=0
    case neg =>
      rw [decide_eq_false h1,Bool.false_and] at hr
      by_cases h2:7<rg
      · have a1:(7:Int)<(rg:Int):=by omega
        clear h1 h2
        have HF:=Lib.hid hr
        clear hr
        go_wp2_with fail
        go_ret
        exact ⟨by have hf:=HF.out;subst hf;rfl,HB0.out⟩
      · have a1:¬ ((7:Int)<(rg:Int)):=by omega
        have a2:(0:Int)<(rg:Int):=by omega
        clear h1 h2
        have HF:=Lib.hid hr
        clear hr
        go_wp2_with fail
        go_ret
        exact ⟨by have hf:=HF.out;subst hf;rfl,HB0.out⟩
    rw [decide_eq_true h1,Bool.true_and] at hr
    subst h1
    by_cases h3:lc=0
    case neg =>
      rw [decide_eq_false h3,Bool.false_and] at hr
      have a3:((lc:Int) != 0)=true:=bne_iff_ne.2 (by omega)
      clear h3
      have HF:=Lib.hid hr
      clear hr
      go_wp2_with fail
      go_ret
      exact ⟨by have hf:=HF.out;subst hf;rfl,HB0.out⟩
    rw [decide_eq_true h3,Bool.true_and] at hr
    subst h3
    have HR:=Lib.hid hr
    clear hr
    go_wp2_with fail
    refine (rex_any la false _ _ (HA.out.below HB0.out)).mono ?_
    rintro e w1 ⟨rfl,hb1⟩
    have HB1:=Lib.hid (HB0.out.trans (hb1.mono HB0.out.size))
    have d0:w1.cell? ⟨gb,0,none⟩=some (.int .u8 8):=(HBX.out.below hb1 HBX.out.lt).cell 0
    have d5:w1.cell? ⟨gb,5,none⟩=some (.slice pb lb.length cb):=(HBX.out.below hb1 HBX.out.lt).cell 5
    have l1:=(HBX.out.below hb1 HBX.out.lt).lt
    have HBY:=Lib.hid (HBX.out.below hb1 HBX.out.lt)
    have hr:=HR.out
    clear HR c0 c1 c3 c4 c5 l0 hb1
    cases hx:rexF la false with
    | false =>
      rw [hx,Bool.false_and] at hr
      clear hx
      have HF:=Lib.hid hr
      clear hr
      go_wp2_with fail
      go_ret
      exact ⟨by have hf:=HF.out;subst hf;rfl,HB1.out⟩
    | true =>
    rw [hx,Bool.true_and] at hr
    clear hx
    by_cases h5:lb.length=0
    · rw [decide_eq_true h5] at hr
      have a5:((lb.length:Int) == 0)=true:=beq_iff_eq.2 (by omega)
      clear h5
      have HF:=Lib.hid hr
      clear hr
      go_wp2_with fail
      go_ret
      exact ⟨by have hf:=HF.out;subst hf;rfl,HB1.out⟩
    · rw [decide_eq_false h5] at hr
      have a5:((lb.length:Int) == 0)=false:=beq_eq_false_iff_ne.2 (by omega)
      clear h5
      have HF:=Lib.hid hr
      clear hr
      go_wp2_with fail
      go_ret
      exact ⟨by have hf:=HF.out;subst hf;rfl,HB1.out⟩
set_option maxRecDepth 100000 in
set_option maxHeartbeats 2000000 in
private theorem mark9 (rg md lc:Nat) (la lb:List It) (av bv:Value) (w:World) (ha:Row w av la) (hb:Row w bv lb) (r:Bool) (hr:r=(rmodeF 9 md && (decide (rg=0) && (decide (lc=0) && (rexF la false && decide (lb.length=0)))))):Calls Tryz.prog 59 #[mkAgg (Prog.Mark.mk 9 rg md lc la lb) av bv] w fun e w'=>Made (.returned (.bool r)) w e w':=by
  obtain ⟨pa,ca,rfl,hla⟩:=ha.len
  obtain ⟨pb,cb,rfl,hlb⟩:=hb.len
  have ja:(la.length:Int)<=1000000:=by omega
  have jb:(lb.length:Int)<=1000000:=by omega
  have HA:=Lib.hid ha
  have HB:=Lib.hid hb
  have HR:=Lib.hid hr
  have HM:=rmode6_any 9 md
  have HB0:Hid (Below w.heap.size w (w.alloc (.cells #[.int .u8 9,.int .u8 (rg:Nat),.int .u8 (md:Nat),.int .u8 (lc:Nat),.slice pa la.length ca,.slice pb lb.length cb] 95))):=Lib.hid ((Below.refl _ _).alloc (Nat.le_refl _) _)
  have HBX:=Lib.hid (Sits.new w 95 #[.int .u8 9,.int .u8 (rg:Nat),.int .u8 (md:Nat),.int .u8 (lc:Nat),.slice pa la.length ca,.slice pb lb.length cb])
  simp only [mkAgg]
  clear ha hb hla hlb hr
  go_enter Tryz.func59,Tryz.ntmps59
  go_wp2_with fail
  refine (HM _).mono ?_
  rintro e w' ⟨rfl,rfl⟩
  generalize w.alloc (.cells #[.int .u8 9,.int .u8 (rg:Nat),.int .u8 (md:Nat),.int .u8 (lc:Nat),.slice pa la.length ca,.slice pb lb.length cb] 95)=w0 at HB0 HBX ⊢
  generalize w.heap.size=gb at HBX ⊢
  have c0:w0.cell? ⟨gb,0,none⟩=some (.int .u8 9):=HBX.out.cell 0
  have c1:w0.cell? ⟨gb,1,none⟩=some (.int .u8 (rg:Nat)):=HBX.out.cell 1
  have c3:w0.cell? ⟨gb,3,none⟩=some (.int .u8 (lc:Nat)):=HBX.out.cell 3
  have c4:w0.cell? ⟨gb,4,none⟩=some (.slice pa la.length ca):=HBX.out.cell 4
  have c5:w0.cell? ⟨gb,5,none⟩=some (.slice pb lb.length cb):=HBX.out.cell 5
  have l0:=HBX.out.lt
  have hr:=HR.out
  clear HM HR
  cases hm:rmodeF 9 md with
  | false =>
    rw [hm,Bool.false_and] at hr
    clear hm
    have HF:=Lib.hid hr
    clear hr
    go_wp2_with fail
    go_ret
    exact ⟨by have hf:=HF.out;subst hf;rfl,HB0.out⟩
  | true =>
    rw [hm,Bool.true_and] at hr
    clear hm
    by_cases h1:rg=0
    case neg =>
      rw [decide_eq_false h1,Bool.false_and] at hr
      by_cases h2:7<rg
      · have a1:(7:Int)<(rg:Int):=by omega
        clear h1 h2
        have HF:=Lib.hid hr
        clear hr
        go_wp2_with fail
        go_ret
        exact ⟨by have hf:=HF.out;subst hf;rfl,HB0.out⟩
      · have a1:¬ ((7:Int)<(rg:Int)):=by omega
        have a2:(0:Int)<(rg:Int):=by omega
        clear h1 h2
        have HF:=Lib.hid hr
        clear hr
        go_wp2_with fail
        go_ret
        exact ⟨by have hf:=HF.out;subst hf;rfl,HB0.out⟩
    rw [decide_eq_true h1,Bool.true_and] at hr
    subst h1
    by_cases h3:lc=0
    case neg =>
      rw [decide_eq_false h3,Bool.false_and] at hr
      have a3:((lc:Int) != 0)=true:=bne_iff_ne.2 (by omega)
      clear h3
      have HF:=Lib.hid hr
      clear hr
      go_wp2_with fail
      go_ret
      exact ⟨by have hf:=HF.out;subst hf;rfl,HB0.out⟩
    rw [decide_eq_true h3,Bool.true_and] at hr
    subst h3
    have HR:=Lib.hid hr
    clear hr
    go_wp2_with fail
    refine (rex_any la false _ _ (HA.out.below HB0.out)).mono ?_
    rintro e w1 ⟨rfl,hb1⟩
    have HB1:=Lib.hid (HB0.out.trans (hb1.mono HB0.out.size))
    have d0:w1.cell? ⟨gb,0,none⟩=some (.int .u8 9):=(HBX.out.below hb1 HBX.out.lt).cell 0
    have d5:w1.cell? ⟨gb,5,none⟩=some (.slice pb lb.length cb):=(HBX.out.below hb1 HBX.out.lt).cell 5
    have l1:=(HBX.out.below hb1 HBX.out.lt).lt
    have HBY:=Lib.hid (HBX.out.below hb1 HBX.out.lt)
    have hr:=HR.out
    clear HR c0 c1 c3 c4 c5 l0 hb1
    cases hx:rexF la false with
    | false =>
      rw [hx,Bool.false_and] at hr
      clear hx
      have HF:=Lib.hid hr
      clear hr
      go_wp2_with fail
      go_ret
      exact ⟨by have hf:=HF.out;subst hf;rfl,HB1.out⟩
    | true =>
    rw [hx,Bool.true_and] at hr
    clear hx
    by_cases h5:lb.length=0
    · rw [decide_eq_true h5] at hr
      have a5:((lb.length:Int) == 0)=true:=beq_iff_eq.2 (by omega)
      clear h5
      have HF:=Lib.hid hr
      clear hr
      go_wp2_with fail
      go_ret
      exact ⟨by have hf:=HF.out;subst hf;rfl,HB1.out⟩
    · rw [decide_eq_false h5] at hr
      have a5:((lb.length:Int) == 0)=false:=beq_eq_false_iff_ne.2 (by omega)
      clear h5
      have HF:=Lib.hid hr
      clear hr
      go_wp2_with fail
      go_ret
      exact ⟨by have hf:=HF.out;subst hf;rfl,HB1.out⟩
theorem mark_any (x:Prog.Mark) (av bv:Value) (w:World) (ha:Row w av x.a) (hb:Row w bv x.b):Calls Tryz.prog 59 #[mkAgg x av bv] w fun e w'=>Made (.returned (.bool (rmarkF x))) w e w':=by
  obtain ⟨k,rg,md,lc,la,lb⟩:=x
  by_cases h:9<k
  · have e:rmarkF (Prog.Mark.mk k rg md lc la lb)=false:=by
      unfold rmarkF
      rw [if_neg (by dsimp only;omega),if_pos h]
    rw [e]
    exact mark10 k rg md lc la lb av bv w h
  · have:k=0 \/ k=1 \/ k=2 \/ k=3 \/ k=4 \/ k=5 \/ k=6 \/ k=7 \/ k=8 \/ k=9:=by omega
    rcases this with rfl | rfl | rfl | rfl | rfl | rfl | rfl | rfl | rfl | rfl
    · exact mark0 rg md lc la lb av bv w
    · exact mark1 rg md lc la lb av bv w ha hb _ rfl
    · exact mark2 rg md lc la lb av bv w ha hb _ rfl
    · exact mark3 rg md lc la lb av bv w ha hb _ rfl
    · exact mark4 rg md lc la lb av bv w ha hb _ rfl
    · exact mark5 rg md lc la lb av bv w ha hb _ rfl
    · exact mark6 rg md lc la lb av bv w ha hb _ rfl
    · exact mark7 rg md lc la lb av bv w ha hb _ rfl
    · exact mark8 rg md lc la lb av bv w ha hb _ rfl
    · exact mark9 rg md lc la lb av bv w ha hb _ rfl
end Go.Proofs.YtbkdappgmcebaaaGreatDoor.Chk
end
