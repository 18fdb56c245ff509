/- Part 38 of the proof: what is used of the texts ThrS, ThrA, ThrB. -/
import Derived.Test.YtagebkachdmnbaaGreatDoorMB0
import Derived.Test.YtagebkachdmnbaaGreatDoorMA5
import Derived.Test.YtagebkachdmnbaaGreatDoorMD6
import Derived.BigQuiet
import Derived.OwnWalk
section
namespace Go.Proofs.YtagebkachdmnbaaGreatDoor.Thr
open Go.Proofs.YtagebkachdmnbaaGreatDoor.Expr Go.Proofs.YtagebkachdmnbaaGreatDoor.Prog Go.Proofs.YtagebkachdmnbaaGreatDoor.Unr
def lfR (r:Nat->Int):Unit->Ex->Int × Unit:=fun _ e=>match e with
  | .reg i=>(r i,())
  | _=>(0,())
def valF (r:Nat->Int):Option Ex->Int
  | none=>0
  | some e=>(Ex.value (lfR r) e ()).1
structure St where
  at_:Int
  r:Nat->Int
def putR (r:Nat->Int) (reg:Nat) (n:Int):Nat->Int:=if reg<8 then fun i=>if i=reg then n else r i else r
def atI (code:List In) (i:Int):Option In:=if 0<=i then code[i.toNat]? else none
def setS (s:St) (x:In):St:=⟨x.next,putR s.r x.reg (valF s.r x.a)⟩
def goS (s:St) (x:In):St:=⟨if valF s.r x.a=0 then x.els else x.next,s.r⟩
def runF (code:List In):Nat->St->St
  | 0,s=>s
  | n+1,s=>match atI code s.at_ with
    | none=>s
    | some x=>if x.kind=1 then runF code n (setS s x) else if x.kind=8 then runF code n (goS s x) else s
def beginF (code:List In) (begin:Int):St:=runF code code.length ⟨begin,fun _=>0⟩
structure Ac where
  kind:Nat
  mode:Nat
  loc:Int
  a:Int
  b:Int
deriving DecidableEq
def acOf (r:Nat->Int) (x:In):Ac:=⟨x.kind,x.mode,x.loc,valF r x.a,valF r x.b⟩
def nextF (code:List In) (s:St):Option Ac:=match atI code s.at_ with
  | none=>none
  | some x=>if x.kind<2 \/ 7<x.kind then none else some (acOf s.r x)
def updK (k:Nat):Bool:=decide (k=4 \/ k=5 \/ k=6)
def wrK (k:Nat):Bool:=decide (k=3 \/ k=4 \/ k=5 \/ k=6)
def halfF (mode strong:Nat):Nat:=if mode=strong \/ mode=5 then strong else 2
def readsF (a:Ac):Option Nat:=if a.kind=2 then some a.mode else if updK a.kind=true then some (halfF a.mode 3) else none
def writesF (a:Ac) (read:Int):Option (Int × Nat) :=
  if a.kind=3 then some (a.a,a.mode) else if a.kind=4 then some (a.a,halfF a.mode 4) else if a.kind=5 then some (IntKind.u64.wrap (read+a.a),halfF a.mode 4)
  else if a.kind=6/\read=a.a then some (a.b,halfF a.mode 4) else none
def behindF (r:Nat->Int) (x:In) (read:Int):St:=⟨x.next,if (readsF (acOf r x)).isSome then putR r x.reg read else r⟩
def doneF (code:List In) (s:St) (read:Int):St:=match atI code s.at_ with
  | none=>s
  | some x=>if x.kind<2 \/ 7<x.kind then s else runF code code.length (behindF s.r x read)
def behF (found:List Nat) (i:Int):Nat:=if i<0 \/ (found.length:Int)<=i then 0 else found.getD i.toNat 0
def stepM (cnt:Nat->Bool) (found:List Nat) (x:In):Nat :=
  if x.kind=9 then 0 else if x.kind=8 then max (behF found x.next) (behF found x.els) else if cnt x.kind=true then 1+behF found x.next else behF found x.next
def foundF (cnt:Nat->Bool) (l:List In):List Nat:=l.foldl (fun f x=>f ++ [stepM cnt f x]) []
def mostF (cnt:Nat->Bool) (code:List In) (i:Int):Nat:=match atI code i with
  | none=>0
  | some _=>(foundF cnt (code.take (i.toNat+1))).getD i.toNat 0
section
variable {P : In → Prop} (hB : ∀ a th el, okO a → P (branchI a th el)) (hS : ∀ own, P (stuckI own))
include hB
omit hB in
include hS in
include hS
end
end Go.Proofs.YtagebkachdmnbaaGreatDoor.Thr
end
section
namespace Go.Proofs.YtagebkachdmnbaaGreatDoor.Thr
open Go.RowKit Go.Shelf Go.Proofs.YtagebkachdmnbaaGreatDoor.Mem Go.Proofs.YtagebkachdmnbaaGreatDoor.Expr Go.Proofs.YtagebkachdmnbaaGreatDoor.Prog Go.Proofs.YtagebkachdmnbaaGreatDoor.Row Go.Proofs.YtagebkachdmnbaaGreatDoor.Unr Go.Lib
abbrev acV (a:Ac):Value:=.agg #[.int .u8 a.kind,.int .u8 a.mode,.int .i64 a.loc,.int .u64 a.a,.int .u64 a.b]
theorem nbeq {k n:Nat} (h:k≠n):((k:Int) == (n:Int))=false:=beq_eq_false_iff_ne.2 (by omega)
set_option maxRecDepth 100000 in
theorem update_any (a:Ac) (w:World):Calls Tryz.prog 27 #[acV a] w (Made (.returned (.bool (updK a.kind))) w):=by
  obtain ⟨k,m,l,x,y⟩:=a
  show Calls _ _ #[.agg #[.int .u8 k,.int .u8 m,.int .i64 l,.int .u64 x,.int .u64 y]] _ (Made (.returned (.bool (updK k))) w)
  by_cases h4:k=4
  · subst h4
    go_enter Tryz.func27,Tryz.ntmps27
    go_wp2_with fail
    go_ret
    exact ⟨rfl,(Below.refl _ _).alloc (Nat.le_refl _) _⟩
  · by_cases h5:k=5
    · subst h5
      go_enter Tryz.func27,Tryz.ntmps27
      go_wp2_with fail
      go_ret
      exact ⟨rfl,(Below.refl _ _).alloc (Nat.le_refl _) _⟩
    · by_cases h6:k=6
      · subst h6
        go_enter Tryz.func27,Tryz.ntmps27
        go_wp2_with fail
        go_ret
        exact ⟨rfl,(Below.refl _ _).alloc (Nat.le_refl _) _⟩
      · have e:updK k=false:=by simp [updK,h4,h5,h6]
        have e4:((k:Int) == 4)=false:=nbeq h4
        have e5:((k:Int) == 5)=false:=nbeq h5
        have e6:((k:Int) == 6)=false:=nbeq h6
        rw [e]
        clear h4 h5 h6 e
        go_enter Tryz.func27,Tryz.ntmps27
        go_wp2_with fail
        go_ret
        exact ⟨rfl,(Below.refl _ _).alloc (Nat.le_refl _) _⟩
set_option maxRecDepth 100000 in
theorem half_any (a:Ac) (s:Nat) (w:World):Calls Tryz.prog 53 #[acV a,.int .u8 s] w (Made (.returned (.int .u8 (halfF a.mode s:Nat))) w):=by
  obtain ⟨k,m,l,x,y⟩:=a
  show Calls _ _ #[.agg #[.int .u8 k,.int .u8 m,.int .i64 l,.int .u64 x,.int .u64 y],_] _ (Made (.returned (.int .u8 (halfF m s:Nat))) w)
  by_cases h1:m=s
  · have e:halfF m s=s:=by unfold halfF;rw [if_pos (.inl h1)]
    have e1:((m:Int) == (s:Int))=true:=by rw [h1];exact beq_self_eq_true _
    rw [e];clear e h1
    go_enter Tryz.func53,Tryz.ntmps53
    go_wp2_with fail
    go_ret
    exact ⟨rfl,(Below.refl _ _).alloc (Nat.le_refl _) _⟩
  · have e1:((m:Int) == (s:Int))=false:=nbeq h1
    by_cases h2:m=5
    · have e:halfF m s=s:=by unfold halfF;rw [if_pos (.inr h2)]
      have e2:((m:Int) == 5)=true:=by rw [h2];rfl
      rw [e];clear e h1 h2
      go_enter Tryz.func53,Tryz.ntmps53
      go_wp2_with fail
      go_ret
      exact ⟨rfl,(Below.refl _ _).alloc (Nat.le_refl _) _⟩
    · have e:halfF m s=2:=by unfold halfF;rw [if_neg (by omega)]
      have e2:((m:Int) == 5)=false:=nbeq h2
      rw [e];clear e h1 h2
      go_enter Tryz.func53,Tryz.ntmps53
      go_wp2_with fail
      go_ret
      exact ⟨rfl,(Below.refl _ _).alloc (Nat.le_refl _) _⟩
abbrev modeR:Option Nat->Value
  | none => .tuple #[.int .u8 0,.bool false]
  | some m => .tuple #[.int .u8 m,.bool true]
abbrev writeR:Option (Int × Nat)->Value
  | none => .tuple #[.int .u64 0,.int .u8 0,.bool false]
  | some (n,m) => .tuple #[.int .u64 n,.int .u8 m,.bool true]
abbrev acBox (w:World) (k m:Nat) (l x y:Int):World:=w.alloc (.cells #[.int .u8 k,.int .u8 m,.int .i64 l,.int .u64 x,.int .u64 y] 57)
theorem acBox_low (w:World) (k m:Nat) (l x y:Int):Below w.heap.size w (acBox w k m l x y):=(Below.refl _ _).alloc (Nat.le_refl _) _
set_option maxRecDepth 100000 in
theorem reads_any (a:Ac) (w:World):Calls Tryz.prog 23 #[acV a] w (Made (.returned (modeR (readsF a))) w):=by
  obtain ⟨k,m,l,x,y⟩:=a
  have HU:=Lib.hid (fun W=>update_any ⟨k,m,l,x,y⟩ W)
  have HH:=Lib.hid (fun W=>half_any ⟨k,m,l,x,y⟩ 3 W)
  have HLW:=Lib.hid (acBox_low w k m l x y)
  have HS:Hid (Sits (acBox w k m l x y) w.heap.size 57 #[.int .u8 k,.int .u8 m,.int .i64 l,.int .u64 x,.int .u64 y]):=Lib.hid (Sits.new _ _ _)
  show Calls _ _ #[.agg #[.int .u8 k,.int .u8 m,.int .i64 l,.int .u64 x,.int .u64 y]] _ _
  by_cases h2:k=2
  · subst h2
    show Calls _ _ _ _ (Made (.returned (.tuple #[.int .u8 m,.bool true])) w)
    go_enter Tryz.func23,Tryz.ntmps23
    go_wp2_with fail
    go_ret2
    exact ⟨rfl,(Below.refl _ _).alloc (Nat.le_refl _) _⟩
  · have e2:((k:Int) == 2)=false:=nbeq h2
    by_cases hu:updK k=true
    · have e:readsF ⟨k,m,l,x,y⟩=some (halfF m 3):=by unfold readsF;rw [if_neg h2,if_pos hu]
      rw [e]
      have hu':updK (Ac.mk k m l x y).kind=true:=hu
      rw [hu'] at HU
      clear h2 hu e hu'
      show Calls _ _ _ _ (Made (.returned (.tuple #[.int .u8 (halfF m 3:Nat),.bool true])) w)
      have HH:Hid (∀ W,Calls Tryz.prog 53 #[.agg #[.int .u8 k,.int .u8 m,.int .i64 l,.int .u64 x,.int .u64 y],.int .u8 3] W (Made (.returned (.int .u8 (halfF m 3:Nat))) W)):=HH
      generalize halfF m 3=z at HH ⊢
      go_enter Tryz.func23,Tryz.ntmps23
      go_wp2_with fail
      refine (HU.out _).mono ?_
      rintro e w1 ⟨rfl,hb⟩
      have HB:=Lib.hid (HLW.out.trans (hb.mono HLW.out.size))
      have hs:=HS.out.below hb HS.out.lt
      have x0:w1.cell? ⟨w.heap.size,0,none⟩=some (.int .u8 k):=hs.cell 0
      have x1:w1.cell? ⟨w.heap.size,1,none⟩=some (.int .u8 m):=hs.cell 1
      have x2:w1.cell? ⟨w.heap.size,2,none⟩=some (.int .i64 l):=hs.cell 2
      have x3:w1.cell? ⟨w.heap.size,3,none⟩=some (.int .u64 x):=hs.cell 3
      have x4:w1.cell? ⟨w.heap.size,4,none⟩=some (.int .u64 y):=hs.cell 4
      have lx:=hs.lt
      clear hb hs
      go_wp2_with fail
      refine (HH.out _).mono ?_
      rintro e w2 ⟨rfl,hb⟩
      have HB2:=Lib.hid (HB.out.trans (hb.mono HB.out.size))
      clear hb
      go_wp2_with fail
      go_ret2
      exact ⟨rfl,HB2.out⟩
    · have hu:updK k=false:=by simpa using hu
      have e:readsF ⟨k,m,l,x,y⟩=none:=by unfold readsF;rw [if_neg h2,if_neg (by simp [hu])]
      rw [e]
      have hu':updK (Ac.mk k m l x y).kind=false:=hu
      rw [hu'] at HU
      clear h2 hu e hu' HH
      show Calls _ _ _ _ (Made (.returned (.tuple #[.int .u8 0,.bool false])) w)
      go_enter Tryz.func23,Tryz.ntmps23
      go_wp2_with fail
      refine (HU.out _).mono ?_
      rintro e w1 ⟨rfl,hb⟩
      have HB:=Lib.hid (HLW.out.trans (hb.mono HLW.out.size))
      clear hb
      go_wp2_with fail
      go_ret2
      exact ⟨rfl,HB.out⟩
theorem updK_false {k:Nat} (h4:k≠4) (h5:k≠5) (h6:k≠6):updK k=false:=by simp [updK,h4,h5,h6]
set_option maxRecDepth 100000 in
set_option maxHeartbeats 1000000 in
theorem writes_any (a:Ac) (n:Int) (h1:0<=n) (h2:n<18446744073709551616) (ha:0<=a.a) (w:World):Calls Tryz.prog 25 #[acV a,.int .u64 n] w (Made (.returned (writeR (writesF a n))) w):=by
  obtain ⟨k,m,l,x,y⟩:=a
  have ha:0<=x:=ha
  have HU:=Lib.hid (fun W=>update_any ⟨k,m,l,x,y⟩ W)
  have HH:Hid (∀ W,Calls Tryz.prog 53 #[.agg #[.int .u8 k,.int .u8 m,.int .i64 l,.int .u64 x,.int .u64 y],.int .u8 4] W (Made (.returned (.int .u8 (halfF m 4:Nat))) W)):=Lib.hid (fun W=>half_any ⟨k,m,l,x,y⟩ 4 W)
  have HLW:=Lib.hid (acBox_low w k m l x y)
  have HS:Hid (Sits (acBox w k m l x y) w.heap.size 57 #[.int .u8 k,.int .u8 m,.int .i64 l,.int .u64 x,.int .u64 y]):=Lib.hid (Sits.new _ _ _)
  have HD:=Lib.hid (fun W=>Num.do_any 5 n x h1 h2 ha W)
  have ed:Num.doF 5 n x=IntKind.u64.wrap (n+x):=rfl
  rw [ed] at HD
  clear h1 h2 ha ed
  show Calls _ _ #[.agg #[.int .u8 k,.int .u8 m,.int .i64 l,.int .u64 x,.int .u64 y],_] _ _
  by_cases h4:k=4
  · subst h4
    clear HD
    show Calls _ _ _ _ (Made (.returned (.tuple #[.int .u64 x,.int .u8 (halfF m 4:Nat),.bool true])) w)
    have HU1:Hid (∀ W,Calls Tryz.prog 27 #[.agg #[.int .u8 (4:Nat),.int .u8 m,.int .i64 l,.int .u64 x,.int .u64 y]] W (Made (.returned (.bool true)) W)):=HU
    clear HU
    generalize halfF m 4=z at HH ⊢
    go_enter Tryz.func25,Tryz.ntmps25
    go_upto_region 1 with (fail)
    change Code.wp _ _ _ _ (acBox w (4:Nat) m l x y)
    generalize acBox w (4:Nat) m l x y=wa at HLW HS ⊢
    have x0:wa.cell? ⟨w.heap.size,0,none⟩=some (.int .u8 (4:Nat)):=HS.out.cell 0
    have x1:wa.cell? ⟨w.heap.size,1,none⟩=some (.int .u8 m):=HS.out.cell 1
    have x2:wa.cell? ⟨w.heap.size,2,none⟩=some (.int .i64 l):=HS.out.cell 2
    have x3:wa.cell? ⟨w.heap.size,3,none⟩=some (.int .u64 x):=HS.out.cell 3
    have x4:wa.cell? ⟨w.heap.size,4,none⟩=some (.int .u64 y):=HS.out.cell 4
    have lx:=HS.out.lt
    go_quiet (fail)
    go_wp2_with fail
    refine (HU1.out _).mono ?_
    rintro e w1 ⟨rfl,hb⟩
    have HB:=Lib.hid ((drewN_below HLW.out nq).trans (hb.mono HLW.out.size))
    have hs:=(show Sits (wa.drewN nq) _ _ _ from HS.out).below hb HS.out.lt
    clear x0 x1 x2 x3 x4 lx
    have x0:w1.cell? ⟨w.heap.size,0,none⟩=some (.int .u8 (4:Nat)):=hs.cell 0
    have x1:w1.cell? ⟨w.heap.size,1,none⟩=some (.int .u8 m):=hs.cell 1
    have x2:w1.cell? ⟨w.heap.size,2,none⟩=some (.int .i64 l):=hs.cell 2
    have x3:w1.cell? ⟨w.heap.size,3,none⟩=some (.int .u64 x):=hs.cell 3
    have x4:w1.cell? ⟨w.heap.size,4,none⟩=some (.int .u64 y):=hs.cell 4
    have lx:=hs.lt
    clear hb
    go_wp2_with fail
    refine (HH.out _).mono ?_
    rintro e w2 ⟨rfl,hb⟩
    have HB2:=Lib.hid (HB.out.trans (hb.mono HB.out.size))
    have hs:=hs.below hb hs.lt
    clear x0 x1 x2 x3 x4 lx
    have x0:w2.cell? ⟨w.heap.size,0,none⟩=some (.int .u8 (4:Nat)):=hs.cell 0
    have x1:w2.cell? ⟨w.heap.size,1,none⟩=some (.int .u8 m):=hs.cell 1
    have x2:w2.cell? ⟨w.heap.size,2,none⟩=some (.int .i64 l):=hs.cell 2
    have x3:w2.cell? ⟨w.heap.size,3,none⟩=some (.int .u64 x):=hs.cell 3
    have x4:w2.cell? ⟨w.heap.size,4,none⟩=some (.int .u64 y):=hs.cell 4
    have lx:=hs.lt
    clear hb
    go_wp2_with fail
    go_ret3
    exact ⟨rfl,HB2.out⟩
  by_cases h5:k=5
  · subst h5
    show Calls _ _ _ _ (Made (.returned (.tuple #[.int .u64 (IntKind.u64.wrap (n+x)),.int .u8 (halfF m 4:Nat),.bool true])) w)
    have HU1:Hid (∀ W,Calls Tryz.prog 27 #[.agg #[.int .u8 (5:Nat),.int .u8 m,.int .i64 l,.int .u64 x,.int .u64 y]] W (Made (.returned (.bool true)) W)):=HU
    clear HU
    generalize halfF m 4=z at HH ⊢
    go_enter Tryz.func25,Tryz.ntmps25
    go_upto_region 1 with (fail)
    change Code.wp _ _ _ _ (acBox w (5:Nat) m l x y)
    generalize acBox w (5:Nat) m l x y=wa at HLW HS ⊢
    have x0:wa.cell? ⟨w.heap.size,0,none⟩=some (.int .u8 (5:Nat)):=HS.out.cell 0
    have x1:wa.cell? ⟨w.heap.size,1,none⟩=some (.int .u8 m):=HS.out.cell 1
    have x2:wa.cell? ⟨w.heap.size,2,none⟩=some (.int .i64 l):=HS.out.cell 2
    have x3:wa.cell? ⟨w.heap.size,3,none⟩=some (.int .u64 x):=HS.out.cell 3
    have x4:wa.cell? ⟨w.heap.size,4,none⟩=some (.int .u64 y):=HS.out.cell 4
    have lx:=HS.out.lt
    go_quiet (fail)
    go_wp2_with fail
    refine (HU1.out _).mono ?_
    rintro e w1 ⟨rfl,hb⟩
    have HB:=Lib.hid ((drewN_below HLW.out nq).trans (hb.mono HLW.out.size))
    have hs:=(show Sits (wa.drewN nq) _ _ _ from HS.out).below hb HS.out.lt
    clear x0 x1 x2 x3 x4 lx
    have x0:w1.cell? ⟨w.heap.size,0,none⟩=some (.int .u8 (5:Nat)):=hs.cell 0
    have x1:w1.cell? ⟨w.heap.size,1,none⟩=some (.int .u8 m):=hs.cell 1
    have x2:w1.cell? ⟨w.heap.size,2,none⟩=some (.int .i64 l):=hs.cell 2
    have x3:w1.cell? ⟨w.heap.size,3,none⟩=some (.int .u64 x):=hs.cell 3
    have x4:w1.cell? ⟨w.heap.size,4,none⟩=some (.int .u64 y):=hs.cell 4
    have lx:=hs.lt
    clear hb
    go_wp2_with fail
    refine (HH.out _).mono ?_
    rintro e w2 ⟨rfl,hb⟩
    have HB2:=Lib.hid (HB.out.trans (hb.mono HB.out.size))
    have hs:=hs.below hb hs.lt
    clear x0 x1 x2 x3 x4 lx
    have x0:w2.cell? ⟨w.heap.size,0,none⟩=some (.int .u8 (5:Nat)):=hs.cell 0
    have x1:w2.cell? ⟨w.heap.size,1,none⟩=some (.int .u8 m):=hs.cell 1
    have x2:w2.cell? ⟨w.heap.size,2,none⟩=some (.int .i64 l):=hs.cell 2
    have x3:w2.cell? ⟨w.heap.size,3,none⟩=some (.int .u64 x):=hs.cell 3
    have x4:w2.cell? ⟨w.heap.size,4,none⟩=some (.int .u64 y):=hs.cell 4
    have lx:=hs.lt
    clear hb
    go_wp2_with fail
    refine (HD.out _).mono ?_
    rintro e w3 ⟨rfl,rfl⟩
    go_wp2_with fail
    go_ret3
    exact ⟨rfl,HB2.out⟩
  by_cases h3:k=3
  · subst h3
    clear HD HH
    show Calls _ _ _ _ (Made (.returned (.tuple #[.int .u64 x,.int .u8 m,.bool true])) w)
    have HU1:Hid (∀ W,Calls Tryz.prog 27 #[.agg #[.int .u8 (3:Nat),.int .u8 m,.int .i64 l,.int .u64 x,.int .u64 y]] W (Made (.returned (.bool false)) W)):=HU
    clear HU
    go_enter Tryz.func25,Tryz.ntmps25
    go_upto_region 1 with (fail)
    change Code.wp _ _ _ _ (acBox w (3:Nat) m l x y)
    generalize acBox w (3:Nat) m l x y=wa at HLW HS ⊢
    have x0:wa.cell? ⟨w.heap.size,0,none⟩=some (.int .u8 (3:Nat)):=HS.out.cell 0
    have x1:wa.cell? ⟨w.heap.size,1,none⟩=some (.int .u8 m):=HS.out.cell 1
    have x2:wa.cell? ⟨w.heap.size,2,none⟩=some (.int .i64 l):=HS.out.cell 2
    have x3:wa.cell? ⟨w.heap.size,3,none⟩=some (.int .u64 x):=HS.out.cell 3
    have x4:wa.cell? ⟨w.heap.size,4,none⟩=some (.int .u64 y):=HS.out.cell 4
    have lx:=HS.out.lt
    go_quiet (fail)
    go_wp2_with fail
    refine (HU1.out _).mono ?_
    rintro e w1 ⟨rfl,hb⟩
    have HB:=Lib.hid ((drewN_below HLW.out nq).trans (hb.mono HLW.out.size))
    have hs:=(show Sits (wa.drewN nq) _ _ _ from HS.out).below hb HS.out.lt
    clear x0 x1 x2 x3 x4 lx
    have x0:w1.cell? ⟨w.heap.size,0,none⟩=some (.int .u8 (3:Nat)):=hs.cell 0
    have x1:w1.cell? ⟨w.heap.size,1,none⟩=some (.int .u8 m):=hs.cell 1
    have x2:w1.cell? ⟨w.heap.size,2,none⟩=some (.int .i64 l):=hs.cell 2
    have x3:w1.cell? ⟨w.heap.size,3,none⟩=some (.int .u64 x):=hs.cell 3
    have x4:w1.cell? ⟨w.heap.size,4,none⟩=some (.int .u64 y):=hs.cell 4
    have lx:=hs.lt
    clear hb
    go_wp2_with fail
    go_ret3
    exact ⟨rfl,HB.out⟩
  by_cases h6:k=6
  · subst h6
    by_cases hn:n=x
    · have e:writesF ⟨6,m,l,x,y⟩ n=some (y,halfF m 4):=by unfold writesF;rw [if_neg (by simp),if_neg (by simp),if_neg (by simp),if_pos ⟨rfl,hn⟩]
      rw [e]
      have hn:=hn.symm
      subst hn
      have en:((x:Int) != x)=false:=by simp
      clear HD e
      show Calls _ _ _ _ (Made (.returned (.tuple #[.int .u64 y,.int .u8 (halfF m 4:Nat),.bool true])) w)
      have HU1:Hid (∀ W,Calls Tryz.prog 27 #[.agg #[.int .u8 (6:Nat),.int .u8 m,.int .i64 l,.int .u64 x,.int .u64 y]] W (Made (.returned (.bool true)) W)):=HU
      clear HU
      generalize halfF m 4=z at HH ⊢
      go_enter Tryz.func25,Tryz.ntmps25
      go_upto_region 1 with (fail)
      change Code.wp _ _ _ _ (acBox w (6:Nat) m l x y)
      generalize acBox w (6:Nat) m l x y=wa at HLW HS ⊢
      have x0:wa.cell? ⟨w.heap.size,0,none⟩=some (.int .u8 (6:Nat)):=HS.out.cell 0
      have x1:wa.cell? ⟨w.heap.size,1,none⟩=some (.int .u8 m):=HS.out.cell 1
      have x2:wa.cell? ⟨w.heap.size,2,none⟩=some (.int .i64 l):=HS.out.cell 2
      have x3:wa.cell? ⟨w.heap.size,3,none⟩=some (.int .u64 x):=HS.out.cell 3
      have x4:wa.cell? ⟨w.heap.size,4,none⟩=some (.int .u64 y):=HS.out.cell 4
      have lx:=HS.out.lt
      go_quiet (fail)
      go_wp2_with fail
      refine (HU1.out _).mono ?_
      rintro e w1 ⟨rfl,hb⟩
      have HB:=Lib.hid ((drewN_below HLW.out nq).trans (hb.mono HLW.out.size))
      have hs:=(show Sits (wa.drewN nq) _ _ _ from HS.out).below hb HS.out.lt
      clear x0 x1 x2 x3 x4 lx
      have x0:w1.cell? ⟨w.heap.size,0,none⟩=some (.int .u8 (6:Nat)):=hs.cell 0
      have x1:w1.cell? ⟨w.heap.size,1,none⟩=some (.int .u8 m):=hs.cell 1
      have x2:w1.cell? ⟨w.heap.size,2,none⟩=some (.int .i64 l):=hs.cell 2
      have x3:w1.cell? ⟨w.heap.size,3,none⟩=some (.int .u64 x):=hs.cell 3
      have x4:w1.cell? ⟨w.heap.size,4,none⟩=some (.int .u64 y):=hs.cell 4
      have lx:=hs.lt
      clear hb
      go_wp2_with fail
      refine (HH.out _).mono ?_
      rintro e w2 ⟨rfl,hb⟩
      have HB2:=Lib.hid (HB.out.trans (hb.mono HB.out.size))
      have hs:=hs.below hb hs.lt
      clear x0 x1 x2 x3 x4 lx
      have x0:w2.cell? ⟨w.heap.size,0,none⟩=some (.int .u8 (6:Nat)):=hs.cell 0
      have x1:w2.cell? ⟨w.heap.size,1,none⟩=some (.int .u8 m):=hs.cell 1
      have x2:w2.cell? ⟨w.heap.size,2,none⟩=some (.int .i64 l):=hs.cell 2
      have x3:w2.cell? ⟨w.heap.size,3,none⟩=some (.int .u64 x):=hs.cell 3
      have x4:w2.cell? ⟨w.heap.size,4,none⟩=some (.int .u64 y):=hs.cell 4
      have lx:=hs.lt
      clear hb
      go_wp2_with fail
      go_ret3
      exact ⟨rfl,HB2.out⟩
    · have e:writesF ⟨6,m,l,x,y⟩ n=none:=by unfold writesF;rw [if_neg (by simp),if_neg (by simp),if_neg (by simp),if_neg (fun h=>hn h.2)]
      rw [e]
      have en:(n != x)=true:=by simpa using hn
      clear HD e hn
      show Calls _ _ _ _ (Made (.returned (.tuple #[.int .u64 0,.int .u8 0,.bool false])) w)
      have HU1:Hid (∀ W,Calls Tryz.prog 27 #[.agg #[.int .u8 (6:Nat),.int .u8 m,.int .i64 l,.int .u64 x,.int .u64 y]] W (Made (.returned (.bool true)) W)):=HU
      clear HU
      generalize halfF m 4=z at HH ⊢
      go_enter Tryz.func25,Tryz.ntmps25
      go_upto_region 1 with (fail)
      change Code.wp _ _ _ _ (acBox w (6:Nat) m l x y)
      generalize acBox w (6:Nat) m l x y=wa at HLW HS ⊢
      have x0:wa.cell? ⟨w.heap.size,0,none⟩=some (.int .u8 (6:Nat)):=HS.out.cell 0
      have x1:wa.cell? ⟨w.heap.size,1,none⟩=some (.int .u8 m):=HS.out.cell 1
      have x2:wa.cell? ⟨w.heap.size,2,none⟩=some (.int .i64 l):=HS.out.cell 2
      have x3:wa.cell? ⟨w.heap.size,3,none⟩=some (.int .u64 x):=HS.out.cell 3
      have x4:wa.cell? ⟨w.heap.size,4,none⟩=some (.int .u64 y):=HS.out.cell 4
      have lx:=HS.out.lt
      go_quiet (fail)
      go_wp2_with fail
      refine (HU1.out _).mono ?_
      rintro e w1 ⟨rfl,hb⟩
      have HB:=Lib.hid ((drewN_below HLW.out nq).trans (hb.mono HLW.out.size))
      have hs:=(show Sits (wa.drewN nq) _ _ _ from HS.out).below hb HS.out.lt
      clear x0 x1 x2 x3 x4 lx
      have x0:w1.cell? ⟨w.heap.size,0,none⟩=some (.int .u8 (6:Nat)):=hs.cell 0
      have x1:w1.cell? ⟨w.heap.size,1,none⟩=some (.int .u8 m):=hs.cell 1
      have x2:w1.cell? ⟨w.heap.size,2,none⟩=some (.int .i64 l):=hs.cell 2
      have x3:w1.cell? ⟨w.heap.size,3,none⟩=some (.int .u64 x):=hs.cell 3
      have x4:w1.cell? ⟨w.heap.size,4,none⟩=some (.int .u64 y):=hs.cell 4
      have lx:=hs.lt
      clear hb
      go_wp2_with fail
      refine (HH.out _).mono ?_
      rintro e w2 ⟨rfl,hb⟩
      have HB2:=Lib.hid (HB.out.trans (hb.mono HB.out.size))
      have hs:=hs.below hb hs.lt
      clear x0 x1 x2 x3 x4 lx
      have x0:w2.cell? ⟨w.heap.size,0,none⟩=some (.int .u8 (6:Nat)):=hs.cell 0
      have x1:w2.cell? ⟨w.heap.size,1,none⟩=some (.int .u8 m):=hs.cell 1
      have x2:w2.cell? ⟨w.heap.size,2,none⟩=some (.int .i64 l):=hs.cell 2
      have x3:w2.cell? ⟨w.heap.size,3,none⟩=some (.int .u64 x):=hs.cell 3
      have x4:w2.cell? ⟨w.heap.size,4,none⟩=some (.int .u64 y):=hs.cell 4
      have lx:=hs.lt
      clear hb
      go_wp2_with fail
      go_ret3
      exact ⟨rfl,HB2.out⟩
  have e:writesF ⟨k,m,l,x,y⟩ n=none:=by unfold writesF;rw [if_neg h3,if_neg h4,if_neg h5,if_neg (fun h=>h6 h.1)]
  rw [e]
  have e3:((k:Int) == 3)=false:=nbeq h3
  have e4:((k:Int) == 4)=false:=nbeq h4
  have e5:((k:Int) == 5)=false:=nbeq h5
  have e6:((k:Int) == 6)=false:=nbeq h6
  have hu':updK (Ac.mk k m l x y).kind=false:=updK_false h4 h5 h6
  rw [hu'] at HU
  clear h3 h4 h5 h6 e hu' HH HD
  show Calls _ _ _ _ (Made (.returned (.tuple #[.int .u64 0,.int .u8 0,.bool false])) w)
  have HU1:Hid (∀ W,Calls Tryz.prog 27 #[.agg #[.int .u8 k,.int .u8 m,.int .i64 l,.int .u64 x,.int .u64 y]] W (Made (.returned (.bool false)) W)):=HU
  clear HU
  go_enter Tryz.func25,Tryz.ntmps25
  go_upto_region 1 with (fail)
  change Code.wp _ _ _ _ (acBox w k m l x y)
  generalize acBox w k m l x y=wa at HLW HS ⊢
  have x0:wa.cell? ⟨w.heap.size,0,none⟩=some (.int .u8 k):=HS.out.cell 0
  have x1:wa.cell? ⟨w.heap.size,1,none⟩=some (.int .u8 m):=HS.out.cell 1
  have x2:wa.cell? ⟨w.heap.size,2,none⟩=some (.int .i64 l):=HS.out.cell 2
  have x3:wa.cell? ⟨w.heap.size,3,none⟩=some (.int .u64 x):=HS.out.cell 3
  have x4:wa.cell? ⟨w.heap.size,4,none⟩=some (.int .u64 y):=HS.out.cell 4
  have lx:=HS.out.lt
  go_quiet (fail)
  go_wp2_with fail
  refine (HU1.out _).mono ?_
  rintro e w1 ⟨rfl,hb⟩
  have HB:=Lib.hid ((drewN_below HLW.out nq).trans (hb.mono HLW.out.size))
  have hs:=(show Sits (wa.drewN nq) _ _ _ from HS.out).below hb HS.out.lt
  clear x0 x1 x2 x3 x4 lx
  have x0:w1.cell? ⟨w.heap.size,0,none⟩=some (.int .u8 k):=hs.cell 0
  have x1:w1.cell? ⟨w.heap.size,1,none⟩=some (.int .u8 m):=hs.cell 1
  have x2:w1.cell? ⟨w.heap.size,2,none⟩=some (.int .i64 l):=hs.cell 2
  have x3:w1.cell? ⟨w.heap.size,3,none⟩=some (.int .u64 x):=hs.cell 3
  have x4:w1.cell? ⟨w.heap.size,4,none⟩=some (.int .u64 y):=hs.cell 4
  have lx:=hs.lt
  clear hb
  go_wp2_with fail
  go_ret3
  exact ⟨rfl,HB.out⟩
end Go.Proofs.YtagebkachdmnbaaGreatDoor.Thr
end
section
namespace Go.Proofs.YtagebkachdmnbaaGreatDoor.Thr
open Go.RowKit Go.Shelf Go.Proofs.YtagebkachdmnbaaGreatDoor.Mem Go.Proofs.YtagebkachdmnbaaGreatDoor.Expr Go.Proofs.YtagebkachdmnbaaGreatDoor.Prog Go.Proofs.YtagebkachdmnbaaGreatDoor.Row Go.Proofs.YtagebkachdmnbaaGreatDoor.Unr Go.Lib
set_option maxRecDepth 100000 in
theorem mayWrite_any (a:Ac) (w:World):Calls Tryz.prog 50 #[acV a] w (Made (.returned (.bool (wrK a.kind))) w):=by
  obtain ⟨k,m,l,x,y⟩:=a
  have HU:=Lib.hid (fun W=>update_any ⟨k,m,l,x,y⟩ W)
  have HLW:=Lib.hid (acBox_low w k m l x y)
  show Calls _ _ #[.agg #[.int .u8 k,.int .u8 m,.int .i64 l,.int .u64 x,.int .u64 y]] _ (Made (.returned (.bool (wrK k))) w)
  by_cases h3:k=3
  · subst h3
    show Calls _ _ _ _ (Made (.returned (.bool true)) w)
    clear HU
    go_enter Tryz.func50,Tryz.ntmps50
    go_wp2_with fail
    go_ret
    exact ⟨rfl,HLW.out⟩
  · have e3:((k:Int) == 3)=false:=nbeq h3
    have e:wrK k=updK k:=by simp [wrK,updK,h3]
    rw [e]
    have HU:Hid (∀ W,Calls Tryz.prog 27 #[.agg #[.int .u8 k,.int .u8 m,.int .i64 l,.int .u64 x,.int .u64 y]] W (Made (.returned (.bool (updK k))) W)):=HU
    generalize updK k=z at HU ⊢
    clear h3 e
    go_enter Tryz.func50,Tryz.ntmps50
    go_wp2_with fail
    refine (HU.out _).mono ?_
    rintro e w1 ⟨rfl,hb⟩
    have HB:=Lib.hid (HLW.out.trans (hb.mono HLW.out.size))
    clear hb
    go_wp2_with fail
    go_ret
    exact ⟨rfl,HB.out⟩
abbrev thV (r:Option Addr) (n d:Nat) (b:Int):Value:=.agg #[.slice r n d,.int .i64 b]
def endF (n:Nat) (i:Int):Bool:=decide (i<0 \/ (n:Int)<=i)
set_option maxRecDepth 100000 in
theorem end_any (r:Option Addr) (n d:Nat) (b i:Int) (w:World):Calls Tryz.prog 51 #[thV r n d b,.int .i64 i] w (Made (.returned (.bool (endF n i))) w):=by
  by_cases h1:i<0
  · have e:endF n i=true:=by simp [endF,h1]
    have e1:decide (i<0)=true:=by simp [h1]
    rw [e];clear e h1
    go_enter Tryz.func51,Tryz.ntmps51
    go_wp2_with fail
    go_ret
    exact ⟨rfl,(Below.refl _ _).alloc (Nat.le_refl _) _⟩
  · have e:endF n i=decide ((n:Int)<=i):=by simp [endF,h1]
    have e1:decide (i<0)=false:=by simp [h1]
    rw [e];clear e h1
    go_enter Tryz.func51,Tryz.ntmps51
    go_wp2_with fail
    go_ret
    exact ⟨rfl,(Below.refl _ _).alloc (Nat.le_refl _) _⟩
abbrev stC (s:St):Array Value:=#[.int .i64 s.at_,.int .u64 (s.r 0),.int .u64 (s.r 1),.int .u64 (s.r 2),.int .u64 (s.r 3),.int .u64 (s.r 4),.int .u64 (s.r 5),.int .u64 (s.r 6),.int .u64 (s.r 7)]
abbrev stV (s:St):Value:=.agg (stC s)
set_option maxRecDepth 100000 in
theorem ended_any (r:Option Addr) (n d:Nat) (b:Int) (s:St) (w:World):Calls Tryz.prog 20 #[thV r n d b,stV s] w (Made (.returned (.bool (endF n s.at_))) w):=by
  obtain ⟨i,f⟩:=s
  have HE:=Lib.hid (fun W=>end_any r n d b i W)
  show Calls _ _ #[_,.agg #[.int .i64 i,.int .u64 (f 0),.int .u64 (f 1),.int .u64 (f 2),.int .u64 (f 3),.int .u64 (f 4),.int .u64 (f 5),.int .u64 (f 6),.int .u64 (f 7)]] _ (Made (.returned (.bool (endF n i))) w)
  generalize f 0=f0
  generalize f 1=f1
  generalize f 2=f2
  generalize f 3=f3
  generalize f 4=f4
  generalize f 5=f5
  generalize f 6=f6
  generalize f 7=f7
  generalize endF n i=z at HE ⊢
  have HLW:Hid (Below w.heap.size w ((w.alloc (.cells #[.slice r n d,.int .i64 b] 44)).alloc (.cells #[.int .i64 i,.int .u64 f0,.int .u64 f1,.int .u64 f2,.int .u64 f3,.int .u64 f4,.int .u64 f5,.int .u64 f6,.int .u64 f7] 52))):=Lib.hid (((Below.refl _ _).alloc (Nat.le_refl _) _).alloc (by simp) _)
  go_enter Tryz.func20,Tryz.ntmps20
  go_wp2_with fail
  refine (HE.out _).mono ?_
  rintro e w1 ⟨rfl,hb⟩
  have HB:=Lib.hid (HLW.out.trans (hb.mono HLW.out.size))
  clear hb
  go_wp2_with fail
  go_ret
  exact ⟨rfl,HB.out⟩
abbrev Reg64 (r:Nat->Int):Prop:=∀ i,U64 (r i)
abbrev StB (g:Nat) (s:St) (W:World):Prop:=Sits W g 52 (stC s)
set_option maxRecDepth 100000 in
theorem value1_any (e:Ex) (he:e.isLeaf=true) (ho:e.ok) (s:St) (g:Nat) (w:World) (hS:StB g s w) :
    Calls Tryz.prog 106 #[leafVal e,.pointer (some ⟨g,0,none⟩)] w (Made (.returned (.int .u64 (lfR s.r () e).1)) w):=by
  obtain ⟨i,f⟩:=s
  have c0:w.cell? ⟨g,0,none⟩=some (.int .i64 i):=hS.cell 0
  have c1:w.cell? ⟨g,1,none⟩=some (.int .u64 (f 0)):=hS.cell 1
  have c2:w.cell? ⟨g,2,none⟩=some (.int .u64 (f 1)):=hS.cell 2
  have c3:w.cell? ⟨g,3,none⟩=some (.int .u64 (f 2)):=hS.cell 3
  have c4:w.cell? ⟨g,4,none⟩=some (.int .u64 (f 3)):=hS.cell 4
  have c5:w.cell? ⟨g,5,none⟩=some (.int .u64 (f 4)):=hS.cell 5
  have c6:w.cell? ⟨g,6,none⟩=some (.int .u64 (f 5)):=hS.cell 6
  have c7:w.cell? ⟨g,7,none⟩=some (.int .u64 (f 6)):=hS.cell 7
  have c8:w.cell? ⟨g,8,none⟩=some (.int .u64 (f 7)):=hS.cell 8
  have lg:=hS.lt
  clear hS
  by_cases hr:∃ j,e = .reg j
  · obtain ⟨j,rfl⟩:=hr
    have hj:j<8:=ho
    show Calls _ _ #[.agg #[.int .u8 1,.int .u8 0,.int .u64 0,.int .u8 0,.int .u8 j,.int .u8 0,.pointer none,.pointer none],_] _ (Made (.returned (.int .u64 (f j))) w)
    obtain rfl | rfl | rfl | rfl | rfl | rfl | rfl | rfl:j=0 \/ j=1 \/ j=2 \/ j=3 \/ j=4 \/ j=5 \/ j=6 \/ j=7:=by omega
    all_goals
      clear ho he hj
      go_enter Tryz.func106,Tryz.ntmps106
      go_wp2_with fail
      go_ret
      exact ⟨rfl,(Below.refl _ _).alloc (Nat.le_refl _) _⟩
  · have e0:(lfR f () e).1=0:=by
      cases e with
      | reg j=>exact absurd ⟨j,rfl⟩ hr
      | _=>rfl
    have hk:(leafIt e).kind≠1:=by
      cases e with
      | reg j=>exact absurd ⟨j,rfl⟩ hr
      | _=>simp [leafIt]
    show Calls _ _ _ _ (Made (.returned (.int .u64 (lfR f () e).1)) w)
    rw [e0]
    unfold leafVal exprCells
    generalize leafIt e=it at hk ⊢
    obtain ⟨q,op,n,t,i',x⟩:=it
    have e1:((q:Int) != 1)=true:=by simpa using (show (q:Int)≠1 by have:q≠1:=hk;omega)
    simp only
    clear hk e0 hr ho he
    go_enter Tryz.func106,Tryz.ntmps106
    go_wp2_with fail
    go_ret
    exact ⟨rfl,(Below.refl _ _).alloc (Nat.le_refl _) _⟩
theorem value1_enters:Go.Proofs.YtagebkachdmnbaaGreatDoor.Expr.Enters 106:=enters_of Tryz.func106 (by kernel_rfl) rfl
theorem value_leafs (s:St) (h64:Reg64 s.r) (g B:Nat):Leafs (κ:=Unit) 106 #[] #[.pointer (some ⟨g,0,none⟩)] B [] (fun _ W=>StB g s W) (lfR s.r) (fun _ _=>True) where
  enters:=value1_enters
  keep:=fun _ w w' h hf=>hf.by_ _ (by decide) _ _ h
  call:=fun e k w he ho _ hB h=>(value1_any e he ho s g w h).mono fun e' w' hp=>⟨hp.1,h.below hp.2 h.lt,Fr.below hp.2 hB⟩
  u64:=fun _ e=>by
    cases e with
    | reg i=>exact h64 i
    | _=>exact ⟨show (0:Int)<=0 by decide,show (0:Int)<18446744073709551616 by decide⟩
  inOne:=fun _ _ _ _=>trivial
  inTwo:=fun _ _ _ _ _=>⟨trivial,trivial⟩
  aE:=by simp
  aV:=by simp
  aU:=by simp
  aF:=by simp
def okV:Option Ex->Prop
  | none=>True
  | some e=>e.ok/\e.depth<=12
theorem val64 {r:Nat->Int} (h:Reg64 r):∀ a,okV a->U64 (valF r a)
  | none,_=>⟨show (0:Int)<=0 by decide,show (0:Int)<18446744073709551616 by decide⟩
  | some e,ho=>value_u64 (lf:=lfR r) (fun _ e=>by
      cases e with
      | reg i=>exact h i
      | _=>exact ⟨show (0:Int)<=0 by decide,show (0:Int)<18446744073709551616 by decide⟩) e ho.1 ()
theorem eval_opt (s:St) (h64:Reg64 s.r) (g:Nat) (a:Option Ex) (ho:okV a) (v:Value) (w:World) (hT:Tree w (trO a) v) (hS:StB g s w) :
    Calls Tryz.prog 105 #[v,.func (.func 106) #[] #[.pointer (some ⟨g,0,none⟩)]] w (Made (.returned (.int .u64 (valF s.r a))) w):=by
  cases a with
  | none=>exact eval_not .nil _ _ _ _ _ hT rfl
  | some e=>exact (eval_any (value_leafs s h64 g w.heap.size) e ho.1 ho.2 () trivial v w (Nat.le_refl _) hT hS).mono fun e' w' h=>⟨h.1,h.2.2.low⟩
set_option maxRecDepth 100000 in
theorem value_any (s:St) (h64:Reg64 s.r) (a:Option Ex) (ho:okV a) (v:Value) (w:World) (hT:Tree w (trO a) v) :
    Calls Tryz.prog 48 #[stV s,v] w (Made (.returned (.int .u64 (valF s.r a))) w):=by
  have HLW:Hid (Below w.heap.size w (w.alloc (.cells (stC s) 52))):=Lib.hid ((Below.refl _ _).alloc (Nat.le_refl _) _)
  have HE:=Lib.hid (eval_opt s h64 w.heap.size a ho v _ (hT.below HLW.out) (Sits.new w _ _))
  obtain ⟨p,rfl,_⟩:=hT.ptr
  generalize valF s.r a=z at HE ⊢
  clear hT ho h64
  obtain ⟨i,f⟩:=s
  show Calls _ _ #[.agg #[.int .i64 i,.int .u64 (f 0),.int .u64 (f 1),.int .u64 (f 2),.int .u64 (f 3),.int .u64 (f 4),.int .u64 (f 5),.int .u64 (f 6),.int .u64 (f 7)],_] _ _
  go_enter Tryz.func48,Tryz.ntmps48
  go_wp2_with fail
  refine HE.out.mono ?_
  rintro e w1 ⟨rfl,hb⟩
  have HB:=Lib.hid (HLW.out.trans (hb.mono HLW.out.size))
  clear hb
  go_wp2_with fail
  go_ret
  exact ⟨rfl,HB.out⟩
theorem putR_64 {r:Nat->Int} (h:Reg64 r) (reg:Nat) {n:Int} (hn:U64 n):Reg64 (putR r reg n):=fun i=>by
  unfold putR
  split
  · show U64 (if i=reg then n else r i)
    split
    · exact hn
    · exact h i
  · exact h i
set_option maxRecDepth 100000 in
theorem put_reg (s:St) (reg:Nat) (n:Int) (g:Nat) (w:World) (hS:StB g s w) :
    Calls Tryz.prog 52 #[.pointer (some ⟨g,0,none⟩),.int .u8 reg,.int .u64 n] w fun e' w'=>e' = .returned (.tuple #[])/\StB g ⟨s.at_,putR s.r reg n⟩ w' /\ Keeps (fun b=>b=g) w w':=by
  obtain ⟨i,f⟩:=s
  have lg:=hS.lt
  by_cases hr:reg<8
  · obtain rfl | rfl | rfl | rfl | rfl | rfl | rfl | rfl:reg=0 \/ reg=1 \/ reg=2 \/ reg=3 \/ reg=4 \/ reg=5 \/ reg=6 \/ reg=7:=by omega
    all_goals
      have HS:=Lib.hid hS
      have c1:w.cell? ⟨g,1,none⟩=some (.int .u64 (f 0)):=hS.cell 1
      have fr1:=hS.free 1
      have c2:w.cell? ⟨g,2,none⟩=some (.int .u64 (f 1)):=hS.cell 2
      have fr2:=hS.free 2
      have c3:w.cell? ⟨g,3,none⟩=some (.int .u64 (f 2)):=hS.cell 3
      have fr3:=hS.free 3
      have c4:w.cell? ⟨g,4,none⟩=some (.int .u64 (f 3)):=hS.cell 4
      have fr4:=hS.free 4
      have c5:w.cell? ⟨g,5,none⟩=some (.int .u64 (f 4)):=hS.cell 5
      have fr5:=hS.free 5
      have c6:w.cell? ⟨g,6,none⟩=some (.int .u64 (f 5)):=hS.cell 6
      have fr6:=hS.free 6
      have c7:w.cell? ⟨g,7,none⟩=some (.int .u64 (f 6)):=hS.cell 7
      have fr7:=hS.free 7
      have c8:w.cell? ⟨g,8,none⟩=some (.int .u64 (f 7)):=hS.cell 8
      have fr8:=hS.free 8
      clear hS hr
      go_enter Tryz.func52,Tryz.ntmps52
      go_wp2_with fail
      go_end0
      exact ⟨rfl,HS.out.put _ _,Keeps.put (Keeps.refl (fun b=>b=g) w) (.inl rfl) _⟩
  · have e:putR f reg n=f:=by unfold putR;rw [if_neg hr]
    have e1:decide ((reg:Int)<8)=false:=by simp;omega
    have HS:=Lib.hid hS
    show Calls _ _ _ _ fun e' w'=>e' = .returned (.tuple #[])/\StB g ⟨i,putR f reg n⟩ w' /\ _
    rw [e]
    clear e hr hS
    go_enter Tryz.func52,Tryz.ntmps52
    go_wp2_with fail
    go_end0
    exact ⟨rfl,HS.out,Keeps.refl _ _⟩
end Go.Proofs.YtagebkachdmnbaaGreatDoor.Thr
end
