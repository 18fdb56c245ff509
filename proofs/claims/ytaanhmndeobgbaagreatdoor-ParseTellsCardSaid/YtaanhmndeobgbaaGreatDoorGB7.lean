/- Part 18 of the proof: what is used of the texts StmD. -/
import Derived.Test.YtaanhmndeobgbaaGreatDoorGB0
import Derived.Test.YtaanhmndeobgbaaGreatDoorGB2
set_option maxRecDepth 100000
namespace Go.Proofs.YtaanhmndeobgbaaGreatDoor.Prog
open Go.RowKit Mem Go.Proofs.YtaanhmndeobgbaaGreatDoor.Expr ae Go.Lib
theorem wS (a:Option Ex) (ho:okO a) (v:Value) (w:World) (hX:pE w) (hT:Tree w (kr a) v):Calls Tryz.prog 32 #[v] w fun e' w'=>Made (.returned (.string (str (qC a)))) w e' w':=by
 cases a with
 | none=>exact MN .nil v w hT rfl
 | some e=>exact bI e ho.1 ho.2 v w hX hT
def su (w0:World) (b:Nat) (l:List UInt8) (w:World) (e:Ending) (w':World):Prop:=e = .returned (.tuple #[])/\ug w0 b l w' /\ gP b w w'
theorem zk (w0:World) (b d:Nat) (l:List UInt8) (ws:List (List UInt8)) (gb gm:Nat) (vw:Value) (w:World) (hd:d<=8) (hB:ug w0 b l w)
  (h1:Sits w gb 86 #[.pointer (some ⟨b,0,none⟩)]) (h2:Sits w gm 9 #[.string (str (indent d))])
  (hw:Words w vw ws) (hn:ws.length<=100) (hlen:l.length+ws.flatten.length<=110000000000000) :
  Calls Tryz.prog 67 #[vw,.pointer (some ⟨gb,0,none⟩),.pointer (some ⟨gm,0,none⟩)] w (su w0 b (l ++ line d ws.flatten) w) :=
 Kg w0 b d l ws gb gm vw w hB h1 h2 hw hn (by omega)
theorem TT (w:World) (x:List UInt8):Words (w.alloc (.cells #[.string (str x)] 9)) (.slice (some ⟨w.heap.size,0,none⟩) 1 1) [x]:=⟨w.heap.size,rfl,Sits.new _ _ _⟩
theorem EY.below {w w':World} {g o:Nat} {m:Mk} {av bv tv ev:Value} (h:EY w g o m av bv tv ev) (hb:Below w.heap.size w w'):EY w' g o m av bv tv ev:=by
 obtain ⟨h0,h1,h2,h3,h4,h5,h6,h7⟩:=h;have k:=cell_below (U:=gu) hb g trivial;exact ⟨k _ _ h0,k _ _ h1,k _ _ h2,k _ _ h3,k _ _ h4,k _ _ h5,k _ _ h6,k _ _ h7⟩
theorem rD (d:Nat) (s:List UInt8):(line d s).length=2 * d+(s.length+1):=by simp [line,indent]
theorem Sd (rg mo lo:Nat) (a b:Option Ex):[[105,102,32,40],qC a,[41,32,123]].flatten=gI ⟨8,rg,mo,lo,a,b⟩:=by simp [gI]
def xP (w:World) (m:Mk) (pa pb:Option Addr) (tv ev:Value):World:=w.alloc (.cells #[.int .u8 m.kind,.int .u8 m.reg,.int .u8 m.mode,.int .u8 m.loc,.pointer pa,.pointer pb,tv,ev] 119)
structure On (w0 w:World) (bB d gb gm bx:Nat) (cs:Array Value) (l:List UInt8) (W:World):Prop where
 uI:ug w0 bB l W
 Zw:gP bB w W
 q1:Sits W gb 86 #[.pointer (some ⟨bB,0,none⟩)]
 q2:Sits W gm 9 #[.string (str (indent d))]
 box:Sits W bx 119 cs
section
variable {w0 w W W' : World} {bB d gb gm bx : Nat} {cs : Array Value} {l l' : List UInt8}
theorem On.grown (h:On w0 w bB d gb gm bx cs l W) (hb:Below W.heap.size W W'):On w0 w bB d gb gm bx cs l W' :=
 ⟨h.uI.grown hb,h.Zw.trans (gP.below hb),h.q1.below hb h.q1.lt,h.q2.below hb h.q2.lt,h.box.below hb h.box.lt⟩
theorem On.put (h:On w0 w bB d gb gm bx cs l W) (hB:ug w0 bB l' W') (k:gP bB W W'):On w0 w bB d gb gm bx cs l' W' :=
 ⟨hB,h.Zw.trans k,Sits.moved h.q1 k (by decide) (h.uI.far h.q1 (by decide)),Sits.moved h.q2 k (by decide) (h.uI.far h.q2 (by decide)),Sits.moved h.box k (by decide) (h.uI.far h.box (by decide))⟩
theorem On.line (h:On w0 w bB d gb gm bx cs l W) (ws:List (List UInt8)) (hd:d<=8) (hn:ws.length<=100) (hlen:l.length+ws.flatten.length<=110000000000000) :
  Calls Tryz.prog 67 #[.slice (some ⟨W.heap.size,0,none⟩) ws.length ws.length,.pointer (some ⟨gb,0,none⟩),.pointer (some ⟨gm,0,none⟩)] (W.alloc (.cells (words ws) 9))
   fun e w'=>e = .returned (.tuple #[])/\On w0 w bB d gb gm bx cs (l ++ line d ws.flatten) w':=by
 have h1:=h.grown ((Below.refl _ _).alloc (Nat.le_refl _) (.cells (words ws) 9));refine (zk w0 bB d l ws gb gm _ _ hd h1.uI h1.q1 h1.q2 ⟨W.heap.size,rfl,Sits.new _ _ _⟩ hn hlen).mono ?_;rintro e w' ⟨rfl,hB,hM⟩;exact ⟨rfl,h1.put hB hM⟩
theorem On.more (h:On w0 w bB d gb gm bx cs l W) (c:az) (v:Value) (hc:aR gu w0 c v) (hlen:l.length+240000 * c.size<=100000000000000)
  (IH:∀ (l:List UInt8) (v:Value) (w:World),aR gu w0 c v->ug w0 bB l w->l.length+240000 * c.size<=100000000000000 ->
   Calls Tryz.prog 30 #[.pointer (some ⟨bB,0,none⟩),v,.int .i64 ((d:Int)+1)] w (su w0 bB (l ++ c.text (d+1)) w)) :
  Calls Tryz.prog 30 #[.pointer (some ⟨bB,0,none⟩),v,.int .i64 ((d:Int)+1)] W fun e w'=>e = .returned (.tuple #[])/\On w0 w bB d gb gm bx cs (l ++ c.text (d+1)) w':=by
 refine (IH l v W hc h.uI hlen).mono ?_;rintro e w' ⟨rfl,hB,hM⟩;exact ⟨rfl,h.put hB hM⟩
end
theorem On.BC {w0 w W:World} {bB d gb gm bx:Nat} {cs:Array Value} {l:List UInt8} (h:On w0 w bB d gb gm bx cs l W) (ws:List (List UInt8)) (vw:Value) (hw:Words W vw ws) (hd:d<=8) (hn:ws.length<=100) (hlen:l.length+ws.flatten.length<=110000000000000) :
  Calls Tryz.prog 67 #[vw,.pointer (some ⟨gb,0,none⟩),.pointer (some ⟨gm,0,none⟩)] W fun e w'=>e = .returned (.tuple #[])/\On w0 w bB d gb gm bx cs (l ++ Go.Proofs.YtaanhmndeobgbaaGreatDoor.Prog.line d ws.flatten) w':=by
 refine (zk w0 bB d l ws gb gm _ _ hd h.uI h.q1 h.q2 hw hn hlen).mono ?_;rintro e w' ⟨rfl,hB,hM⟩;exact ⟨rfl,h.put hB hM⟩
theorem Jl (x y:List UInt8):joined [x,y]=x ++ 44 :: 32 :: y:=by simp [joined,Lib.join_cons,Lib.joinTail]
theorem Jm (x y z:List UInt8):joined [x,y,z]=x ++ 44 :: 32 :: (y ++ 44 :: 32 :: z):=by simp [joined,Lib.join_cons,Lib.joinTail]
theorem Jn (rg mo lo:Nat) (a b:Option Ex):[114 :: dec rg,[32,61,32],fB [108,111,97,100] [[lo.toUInt8],aH mo]].flatten=gI ⟨2,rg,mo,lo,a,b⟩:=by simp [gI,fB,Jl]
theorem flat3 (rg mo lo:Nat) (a b:Option Ex):[fB [115,116,111,114,101] [[lo.toUInt8],qC a,aH mo]].flatten=gI ⟨3,rg,mo,lo,a,b⟩:=by simp [gI,fB,Jm]
def oP (gb gm:Nat):Value:=.func (.func 67) #[] #[.pointer (some ⟨gb,0,none⟩),.pointer (some ⟨gm,0,none⟩)]
theorem On.made {w0 w wr:World} {bB d gb gm:Nat} {l:List UInt8} (m:Mk) (pa pb:Option Addr) (tv ev:Value) (hB:ug w0 bB l wr) (hM:gP bB w wr) (h1:Sits wr gb 86 #[.pointer (some ⟨bB,0,none⟩)])
  (h2:Sits wr gm 9 #[.string (str (indent d))]):On w0 w bB d gb gm wr.heap.size #[.int .u8 m.kind,.int .u8 m.reg,.int .u8 m.mode,.int .u8 m.loc,.pointer pa,.pointer pb,tv,ev] l (xP wr m pa pb tv ev):=by
 have hb:Below wr.heap.size wr (xP wr m pa pb tv ev):=(Below.refl _ _).alloc (Nat.le_refl _) _;exact ⟨hB.grown hb,hM.trans (gP.below hb),h1.below hb h1.lt,h2.below hb h2.lt,Sits.new _ _ _⟩
def Ni (w0 w:World) (p:Option Addr) (b:az) (bB d gb gm:Nat) (l:List UInt8) (gg:Nat) (v16:Value) (wx:World):Prop :=
 ∃ (q r:az),gg=r.len/\b.len=q.len+r.len/\v16 = .int .i64 (q.len:Nat)/\Hid (b=q.app r)/\Hid (uU w0 p b.len r q.len)/\Hid (ug w0 bB (l ++ q.text d) wx)/\Hid (gP bB w wx) /\
  Hid (Sits wx gb 86 #[.pointer (some ⟨bB,0,none⟩)])/\Hid (Sits wx gm 9 #[.string (str (indent d))])
theorem On.close {w0 w W:World} {bB d gb gm bx:Nat} {cs:Array Value} {l L:List UInt8} {p:Option Addr} {b q r t e:az} {m:Mk} (h:On w0 w bB d gb gm bx cs L W) (hd:d<=8) (hE:b=q.app (.cons m t e r)) (hN:uU w0 p b.len r (q.len+1))
  (hL:L=l ++ q.text d ++ wO m t e d):Ni w0 w p b bB d gb gm l r.len (.int .i64 ((q.len:Int)+1)) W:=by
 refine ⟨q.snoc m t e,r,rfl,?_,?_,hid (by rw [az.kR];exact hE),hid (by rw [az.iG];exact hN),hid ?_,hid h.Zw,hid h.q1,hid h.q2⟩
 ·rw [hE,az.nG,az.iG];simp only [az.len];omega
 ·rw [az.iG];rfl
 ·rw [az.Kj _ _ _ _ _ hd,<- List.append_assoc,<- hL];exact h.uI
theorem Nj (w0:World) (bB:Nat) (d:Nat) (hd:8<d) (hd2:d<=100) (l:List UInt8) (p:Option Addr) (n cap:Nat) (w:World) (hB:ug w0 bB l w) :
  Calls Tryz.prog 30 #[.pointer (some ⟨bB,0,none⟩),.slice p n cap,.int .i64 (d:Nat)] w (su w0 bB l w):=by
 have i1:(8:Int)<(d:Int):=by omega
 have HB:=hid hB;clear hd hd2 hB;go_enter Tryz.func30,Tryz.ntmps30;go_wp2_with fail
 go_end0
 exact ⟨rfl,HB.out,gP.refl _ _⟩
end Go.Proofs.YtaanhmndeobgbaaGreatDoor.Prog
