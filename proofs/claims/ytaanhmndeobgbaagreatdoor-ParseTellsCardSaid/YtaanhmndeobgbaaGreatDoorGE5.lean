/- Part 46 of the proof: what is used of the texts LexE, LexH, LexI. -/
import Derived.Test.YtaanhmndeobgbaaGreatDoorGA1
import Derived.Deep.LoopGhost
import Derived.Test.YtaanhmndeobgbaaGreatDoorGB1
import Derived.Deep.QuietTactic
import Derived.BigQuiet
set_option maxRecDepth 100000
set_option maxHeartbeats 16000000
namespace Go.Proofs.YtaanhmndeobgbaaGreatDoor.Lex
open Go.RowKit
theorem kK (s:ByteArray) (k:Nat) (w:World) :
  Calls Tryz.prog 51 #[.int .u8 (dJ s k),.bool true] w fun e w'=>e = .returned (.bool (jA (fJ s k)))/\w=w':=by
 have e:jA (fJ s k)=(decide (97<=dJ s k) && decide (dJ s k<=122)):=by
  unfold jA dJ;congr 1 <;> (simp;omega)
 rw [e];clear e;have b0:=(Cw s k).1;generalize dJ s k=b at *;by_cases h:97<=b
 all_goals
  by_cases h':b<=122
  all_goals
   go_enter Tryz.func51,Tryz.ntmps51;go_wp2
   go_ret;exact ⟨cZ (by simp [h,h']),rfl⟩
theorem mi (s:ByteArray) (k:Nat) (w:World) :
  Calls Tryz.prog 51 #[.int .u8 (dJ s k),.bool false] w fun e w'=>e = .returned (.bool (cO (fJ s k)))/\w=w':=by
 have e:cO (fJ s k)=(decide (97<=dJ s k) && decide (dJ s k<=122) || decide (48<=dJ s k) && decide (dJ s k<=57)):=by
  unfold cO jA iO dJ;congr 1 <;> congr 1 <;> (simp;omega)
 rw [e];clear e;have b0:=(Cw s k).1;generalize dJ s k=b at *;by_cases h:97<=b
 all_goals
  by_cases h':b<=122
  all_goals
   by_cases g:48<=b
   all_goals
    by_cases g':b<=57
    all_goals first | (exfalso;omega) | skip
    all_goals
     go_enter Tryz.func51,Tryz.ntmps51;go_wp2
     go_ret;exact ⟨cZ (by simp [h,h',g,g']),rfl⟩
theorem Lt (w:World):Calls Tryz.prog 53 #[] w fun e w' =>
  e = .returned (.slice (some ⟨w.heap.size,0,none⟩) 21 21)/\w' = w.alloc (.cells #[.string ⟨#[61,61]⟩,.string ⟨#[33,61]⟩,.string ⟨#[60,61]⟩,.string ⟨#[60]⟩,.string ⟨#[61]⟩,.string ⟨#[33]⟩,.string ⟨#[43]⟩,.string ⟨#[45]⟩,.string ⟨#[124]⟩,.string ⟨#[94]⟩,.string ⟨#[42]⟩,.string ⟨#[47]⟩,.string ⟨#[37]⟩,.string ⟨#[38]⟩,.string ⟨#[40]⟩,.string ⟨#[41]⟩,.string ⟨#[123]⟩,.string ⟨#[125]⟩,.string ⟨#[44]⟩,.string ⟨#[59]⟩,.string ⟨#[58]⟩] 9):=by
 go_enter Tryz.func53,Tryz.ntmps53;go_wp2
 go_ret;exact ⟨rfl,rfl⟩
theorem mg (s:ByteArray) (k:Nat) (w:World) (hs:s.size<=4096) (hk:k<=s.size) :
  Calls Tryz.prog 50 #[.string s,.int .i64 k] w fun e w'=>e = .returned (.agg #[.int .i64 (aY s k),.int .i64 (bL s k)])/\Below w.heap.size w w':=by
 go_enter Tryz.func50,Tryz.ntmps50;go_wp2

 go_loopg [6] k (fun g v6 wx=>∃ j,j<=k/\g=k - j/\v6 = .int .i64 (j:Nat)/\Sits wx w.heap.size 29 #[.int .i64 0,.int .i64 0]/\Sits wx (w.heap.size+1) 29 #[.int .i64 (aY s j),.int .i64 (bL s j)]/\Below w.heap.size w wx)
 case atStart=>exact ⟨0,Nat.zero_le _,rfl,rfl,(Sits.new _ _ _).alloc _,Sits.made (by simp) _ _,((Below.refl _ _).alloc (Nat.le_refl _) _).alloc (by simp) _⟩
 case round =>
  obtain ⟨j,hj,rfl,rfl,hR,hP,hb⟩:=hrel;obtain ⟨r0,r1,Y1,Y2⟩:=hR.all2;obtain ⟨p0,p1,pp0,pp1⟩:=hP.all2;have hbd:=Es s j;by_cases hlt:j<k
  ·have hin:=nX s j (by omega)
   by_cases hn:dJ s j=10
   ·have HL:=Lib.hid (IY s j (by omega) hn)
    go_wp2
    go_roundg (k - (j+1))
    case measure=>omega
    case rel=>exact ⟨j+1,by omega,rfl,by go_num,(((hR.far (by simp) _).far (by simp) _).far (by simp) _),by rw [HL.out.1,HL.out.2];exact ((hP.put 1 _).put 0 _).put 1 _,((hb.setCell (by simp) _).setCell (by simp) _).setCell (by simp) _⟩
   ·have HL:=Lib.hid (IZ s j (by omega) hn)
    go_wp2
    go_roundg (k - (j+1))
    case measure=>omega
    case rel=>exact ⟨j+1,by omega,rfl,by go_num,hR.far (by simp) _,by rw [HL.out.1,HL.out.2];exact hP.put 1 _,hb.setCell (by simp) _⟩
  ·obtain rfl:j=k:=by omega
   go_wp2
   refine bodyPost_ret (v:=.agg #[.int .i64 (aY s j),.int .i64 (bL s j)]) (by simp [results,go_sem,r0,r1]) rfl ⟨rfl,?_⟩;exact (hb.setCell (Nat.le_refl _) _).setCell (Nat.le_refl _) _
def numOf (t:ByteArray):Nat:=num t.data.toList
def Rx (t:ByteArray) (e:Ending):Prop :=
 (numOf t<top/\e = .returned (.tuple #[.int .u64 (numOf t:Nat),.bool true])) \/ (¬ numOf t<top/\e = .returned (.tuple #[.int .u64 0,.bool false]))
theorem Cj (t:ByteArray):aT t 0 t.size=numOf t:=by
 unfold aT numOf;rw [List.drop_zero,Nat.sub_zero,List.take_of_length_le (show t.data.toList.length<=t.size from Nat.le_refl _)]
theorem O5 (t:ByteArray) (i:Nat):aT t 0 i<=numOf t:=by
 unfold aT numOf;rw [List.drop_zero,Nat.sub_zero];have:=sW (t.data.toList.take i) (t.data.toList.drop i)
 rwa [List.take_append_drop] at this
theorem Iw (t:ByteArray) (w:World) (ht:t.size<=4096) (hd:∀ i,i<t.size->iO (fJ t i)=true) :
  Calls Tryz.prog 52 #[.string t] w fun e w'=>Rx t e/\w=w':=by
 have HD:=Lib.hid hd;clear hd;go_enter Tryz.func52,Tryz.ntmps52;go_wp2
 go_loopg [4,5] t.size (fun g v4 v5 wx=>∃ i,i<=t.size/\g=t.size - i/\v4 = .int .u64 (aT t 0 i:Nat)/\(aT t 0 i:Int)<=18446744073709551615/\v5 = .int .i64 (i:Nat)/\w=wx)
 case atStart=>exact ⟨0,Nat.zero_le _,rfl,by rw [pz];rfl,by rw [pz];decide,rfl,rfl⟩
 case round =>
  obtain ⟨i,hi,rfl,rfl,hnb,rfl,rfl⟩:=hrel;by_cases hlt:i<t.size
  ·have hin:=nX t i hlt
   obtain ⟨hb1,hb2⟩:=yM (HD.out i hlt);have GJ:=Lib.hid (yL t 0 i (Nat.zero_le _) hlt hb1);have hn0:(0:Int)<=(aT t 0 i:Nat):=Int.natCast_nonneg _;by_cases hov:(18446744073709551615 - (dJ t i - 48)) / 10<(aT t 0 i:Int)
   ·have HB:=Lib.hid (show ¬ numOf t<top from by
     have h1:=O5 t (i+1);have h2:=GJ.out
     unfold top;omega)
    go_wp2
    refine bodyPost_ret (results_tmp2 rfl _ _ _) rfl ⟨.inr ⟨HB.out,rfl⟩,rfl⟩
   ·have hsum:(aT t 0 (i+1):Int)<=18446744073709551615:=by rw [GJ.out];omega
    go_wp2
    go_roundg (t.size - (i+1))
    case measure=>omega
    case rel=>exact ⟨i+1,by omega,rfl,by rw [GJ.out],hsum,by go_num,rfl⟩
  ·obtain rfl:i=t.size:=by omega
   have HB:=Lib.hid (show numOf t<top from by rw [<- Cj];unfold top;omega);go_wp2
   refine bodyPost_ret (results_tmp2 rfl _ _ _) rfl ⟨.inl ⟨HB.out,by rw [<- Cj];rfl⟩,rfl⟩
def JO:List (List UInt8):=[[61,61],[33,61],[60,61],[60],[61],[33],[43],[45],[124],[94],[42],[47],[37],[38],[40],[41],[123],[125],[44],[59],[58]]
def uo (q:Nat):ByteArray:=⟨(JO.getD q []).toArray⟩
def qo:Array Value:=((List.range 21).map fun q=>Value.string (uo q)).toArray
theorem FX:qo=#[.string ⟨#[61,61]⟩,.string ⟨#[33,61]⟩,.string ⟨#[60,61]⟩,.string ⟨#[60]⟩,.string ⟨#[61]⟩,.string ⟨#[33]⟩,.string ⟨#[43]⟩,.string ⟨#[45]⟩,.string ⟨#[124]⟩,.string ⟨#[94]⟩,.string ⟨#[42]⟩,.string ⟨#[47]⟩,.string ⟨#[37]⟩,.string ⟨#[38]⟩,.string ⟨#[40]⟩,.string ⟨#[41]⟩,.string ⟨#[123]⟩,.string ⟨#[125]⟩,.string ⟨#[44]⟩,.string ⟨#[59]⟩,.string ⟨#[58]⟩]:=rfl
theorem Iy (q:Nat) (h:q<21):qo[q]? = some (.string (uo q)):=by
 unfold qo;simp [h]
theorem O6:∀ q,q<21->1<=(uo q).size/\(uo q).size<=2:=by
 intro q hq;have h:∀ q:Fin 21,1<=(JO.getD q.1 []).length/\(JO.getD q.1 []).length<=2:=by decide
 exact h ⟨q,hq⟩
def hits (s:ByteArray) (k q:Nat):Bool:=decide (k+(uo q).size<=s.size) && ((s.extract k (k+(uo q).size)).toList == (uo q).toList)
theorem Ck (s:ByteArray) (k q:Nat):hits s k q=(decide (k+(JO.getD q []).length<=s.size) && ((s.data.toList.drop k).take (JO.getD q []).length == JO.getD q [])):=by
 unfold hits;have e:(uo q).size=(JO.getD q []).length:=rfl;rw [Lib.toList_data,Lib.toList_data,jN,e,Nat.add_sub_cancel_left];rfl
theorem FY (s:ByteArray) (k q:Nat) (x:UInt8) (hk:k<s.size) (h:JO.getD q []=[x]):hits s k q=(fJ s k == x):=by
 rw [Ck,h,drop_cons _ k hk];have:k+1<=s.size:=hk;simp [fJ,this]
theorem vS (s:ByteArray) (k q:Nat) (x:UInt8) (hk:k<s.size) (h:JO.getD q []=[x,61]):hits s k q=(fJ s k == x && fJ s (k+1) == 61):=by
 rw [Ck,h,drop_cons _ k hk];by_cases h1:k+1<s.size
 ·rw [drop_cons _ (k+1) h1]
  have:k+2<=s.size:=h1;simp [fJ,this]
 ·rw [ym s (k+1) (by omega)]
  have:¬ k+2<=s.size:=by omega
  simp [this]
theorem Lu (s:ByteArray) (k:Nat) (hk:k<s.size) (h:∀ q,q<21->hits s k q=false):Cs (fJ s k)=false:=by
 have g:∀ q x,q<21->JO.getD q []=[x]->(fJ s k == x)=false:=fun q x hq hx=>by rw [<- FY s k q x hk hx];exact h q hq
 have g3:=g 3 60 (by omega) rfl;have g4:=g 4 61 (by omega) rfl;have g5:=g 5 33 (by omega) rfl;have g6:=g 6 43 (by omega) rfl;have g7:=g 7 45 (by omega) rfl;have g8:=g 8 124 (by omega) rfl;have g9:=g 9 94 (by omega) rfl;have g10:=g 10 42 (by omega) rfl;have g11:=g 11 47 (by omega) rfl;have g12:=g 12 37 (by omega) rfl;have g13:=g 13 38 (by omega) rfl;have g14:=g 14 40 (by omega) rfl;have g15:=g 15 41 (by omega) rfl;have g16:=g 16 123 (by omega) rfl;have g17:=g 17 125 (by omega) rfl;have g18:=g 18 44 (by omega) rfl;have g19:=g 19 59 (by omega) rfl;have g20:=g 20 58 (by omega) rfl;simp only [beq_eq_false_iff_ne,ne_eq] at *
 simp [Cs,signs, *]
theorem Iz (s:ByteArray) (k p:Nat) (hk:k<s.size) (hp:p<21) (hh:hits s k p=true) (hn:∀ q,q<p->hits s k q=false) :
  Cs (fJ s k)=true/\(uo p).size=(if grows (fJ s k) && fJ s (k+1) == 61 then 2 else 1):=by
 by_cases h3:p<3
 ·have two:∀ x,JO.getD p []=[x,61]->Cs x=true->grows x=true->Cs (fJ s k)=true/\(uo p).size=(if grows (fJ s k) && fJ s (k+1) == 61 then 2 else 1):=by
   intro x hx h1 h2;have e:=vS s k p x hk hx;rw [hh] at e;simp only [Bool.true_eq,Bool.and_eq_true,beq_iff_eq] at e
   have hs:(uo p).size=2:=by show (JO.getD p []).length=2;rw [hx];rfl
   rw [e.1,e.2,hs,h1,h2];exact ⟨rfl,rfl⟩
  match p,h3 with
  | 0,_=>exact two 61 rfl rfl rfl
  | 1,_=>exact two 33 rfl rfl rfl
  | 2,_=>exact two 60 rfl rfl rfl
 ·have d0:=vS s k 0 61 hk rfl
  have d1:=vS s k 1 33 hk rfl;have d2:=vS s k 2 60 hk rfl;rw [hn 0 (by omega)] at d0;rw [hn 1 (by omega)] at d1;rw [hn 2 (by omega)] at d2;have hg:(grows (fJ s k) && fJ s (k+1) == 61)=false:=by
   unfold grows;cases e1:(fJ s k == 61) <;> cases e2:(fJ s k == 33) <;> cases e3:(fJ s k == 60) <;> cases e4:(fJ s (k+1) == 61) <;> simp [e1,e2,e3,e4] at d0 d1 d2 ⊢
  rw [hg];have one:∀ x,JO.getD p []=[x]->Cs x=true->Cs (fJ s k)=true/\(uo p).size=(if false=true then 2 else 1):=by
   intro x hx h1;have e:=FY s k p x hk hx;rw [hh] at e;have e':fJ s k=x:=by simpa using e.symm
   have hs:(uo p).size=1:=by show (JO.getD p []).length=1;rw [hx];rfl
   rw [e',hs,h1];exact ⟨rfl,rfl⟩
  have hc:p=3 \/ p=4 \/ p=5 \/ p=6 \/ p=7 \/ p=8 \/ p=9 \/ p=10 \/ p=11 \/ p=12 \/ p=13 \/ p=14 \/ p=15 \/ p=16 \/ p=17 \/ p=18 \/ p=19 \/ p=20:=by omega
  clear hp h3 hh hn d0 d1 d2;rcases hc with rfl | rfl | rfl | rfl | rfl | rfl | rfl | rfl | rfl | rfl | rfl | rfl | rfl | rfl | rfl | rfl | rfl | rfl
  ·exact one 60 rfl rfl
  ·exact one 61 rfl rfl
  ·exact one 33 rfl rfl
  ·exact one 43 rfl rfl
  ·exact one 45 rfl rfl
  ·exact one 124 rfl rfl
  ·exact one 94 rfl rfl
  ·exact one 42 rfl rfl
  ·exact one 47 rfl rfl
  ·exact one 37 rfl rfl
  ·exact one 38 rfl rfl
  ·exact one 40 rfl rfl
  ·exact one 41 rfl rfl
  ·exact one 123 rfl rfl
  ·exact one 125 rfl rfl
  ·exact one 44 rfl rfl
  ·exact one 59 rfl rfl
  ·exact one 58 rfl rfl
def D9 (r:vU) (w:World) (e:Ending) (w':World):Prop :=
 Below w.heap.size w w' /\ match r with
  | .ok ts=>∃ v,e = .returned (.tuple #[v,.agg #[.int .i64 0,.int .i64 0],.int .i64 0])/\w'.ownsRow w.heap.size 66 5 v ts.length (toks ts)
  | .err er l c=>e = .returned (.tuple #[.slice none 0 0,.agg #[.int .i64 l,.int .i64 c],.int .i64 er])
theorem Ry:(Tryz.prog.info? 66).map (fun i=>(i.zero,i.size,i.bytes))=some (some (.agg #[.int .u8 0,.string .empty,.int .u64 0,.int .i64 0,.int .i64 0]),5,48):=by kernel_rfl
theorem IA {s:ByteArray} {k:Nat} (h:yE (fJ s k)=true) :
  (dJ s k == 10)=true \/ ((dJ s k == 10)=false/\(dJ s k == 9)=true) \/ ((dJ s k == 10)=false/\(dJ s k == 9)=false/\(dJ s k == 32)=true):=by
 rcases Bg h with h1 | ⟨h1,h2⟩ | ⟨h1,h2,h3⟩
 ·have e:dJ s k=32:=by simpa using h1
  rw [e];exact .inr (.inr ⟨rfl,rfl,rfl⟩)
 ·have e:dJ s k=9:=by simpa using h2
  rw [e];exact .inr (.inl ⟨rfl,rfl⟩)
 ·exact .inl h3
theorem O7 (s:ByteArray) (k j:Nat) (hk:k<=j) (hj:j<=s.size):(s.extract k j).size=j - k:=by
 rw [jN];show ((s.data.toList.drop k).take (j - k)).toArray.size=_;have:s.data.toList.length=s.size:=rfl
 simp;omega
theorem Rz (s:ByteArray) (k j i:Nat) (hi:i<j - k):fJ (s.extract k j) i=fJ s (k+i):=by
 unfold fJ;rw [jN];show ((s.data.toList.drop k).take (j - k)).getD i 0=_
 simp [List.getD,hi]
theorem Ea (s:ByteArray) (k j:Nat):numOf (s.extract k j)=aT s k j:=by unfold numOf;rw [jN];rfl
theorem yj {c:UInt8} (h:jA c=true):iO c=false:=by
 unfold jA at h;unfold iO;simp only [Bool.and_eq_true,decide_eq_true_eq] at h
 have:¬ c.toNat<=57:=by omega
 simp [this]
structure ou (w wr:World) (v:Value) (acc:List Tok) (P:Nat) (pc:Array Value):Prop where
 own:wr.ownsRow w.heap.size 66 5 v acc.length (toks acc)
 hR:Sits wr w.heap.size 29 #[.int .i64 0,.int .i64 0]
 hP:Sits wr P 66 pc
 lP:w.heap.size<=P
 ne:v.ownBlock≠some P
 low:Below w.heap.size w wr
section
variable {w wr w2 w3 : World} {v v' : Value} {acc : List Tok} {P : Nat} {pc : Array Value}
theorem ou.begin (hown:wr.ownsRow w.heap.size 66 5 v acc.length (toks acc)) (hR:Sits wr w.heap.size 29 #[.int .i64 0,.int .i64 0]) (hb:Below w.heap.size w wr) (hb2:Below wr.heap.size wr w2) (pc:Array Value) :
  ou w (w2.alloc (.cells pc 66)) v acc w2.heap.size pc:=by
 have hown2:=qM hown (xz hb2) (fun g hg=>by have:=(hown.lt g hg).2;omega);have z:=hb.size;have z2:=hb2.size;exact { own:=hown2.alloc _,hR:=(hR.below hb2 hR.lt).alloc _,hP:=Sits.new _ _ _,lP:=by omega,ne:=fun e=>by have:=(hown2.lt _ e).2;omega,low:=(hb.trans (hb2.mono z)).alloc (by omega) _ }
theorem ou.apart (m:ou w wr v acc P pc):P≠w.heap.size:=m.hP.differ m.hR (by decide)
theorem ou.put (m:ou w wr v acc P pc) (i:Nat) (u:Value):ou w (wr.setCell ⟨P,i,none⟩ u) v acc P (pc.setIfInBounds i u) :=
 { own:=ownsRow_setCell_other m.own m.ne u,hR:=m.hR.far (Ne.symm m.apart) u,hP:=m.hP.put i u,lP:=m.lP,ne:=m.ne,low:=m.low.setCell m.lP u }
theorem ou.alloc (m:ou w wr v acc P pc) (o:Obj):ou w (wr.alloc o) v acc P pc :=
 { own:=m.own.alloc o,hR:=m.hR.alloc o,hP:=m.hP.alloc o,lP:=m.lP,ne:=m.ne,low:=m.low.alloc m.low.size o }
theorem ou.drewN (m:ou w wr v acc P pc) (n:Nat):ou w (wr.drewN n) v acc P pc:={ own:=m.own,hR:=m.hR,hP:=m.hP,lP:=m.lP,ne:=m.ne,low:=⟨m.low.os,m.low.tape,m.low.output,m.low.size,m.low.block⟩ }
theorem ou.grew (m:ou w wr v acc P pc) {o:Obj} (t:Tok) {c:List Value} (hc:c=eG t) (h:w3.ownsRow w.heap.size 66 5 v' (acc.length+1) (toks acc ++ c)) (hg:(wr.alloc o).grownBy w3 v.ownBlock) :
  w3.ownsRow w.heap.size 66 5 v' (acc ++ [t]).length (toks (acc ++ [t]))/\Sits w3 w.heap.size 29 #[.int .i64 0,.int .i64 0]/\Below w.heap.size w w3:=by
 subst hc;refine ⟨by rw [List.length_append,vY];exact h,(m.hR.alloc o).grown hg (aK m.own m.hR (by decide)),(m.low.alloc m.low.size o).grown hg (by have:=m.low.size;simp;omega) (fun g hg=>(m.own.lt g hg).1)⟩
end
theorem RA (s:ByteArray) (w:World) (hs:s.size<=4096) :
  Calls Tryz.prog 13 #[.string s] w fun e w'=>D9 (lex s.data.toList (1,1)) w e w':=by
 obtain ⟨i0,hi,hz0,hz1,hz2⟩:=info_parts Ry;go_enter Tryz.func13,Tryz.ntmps13;go_wp2
 go_loopg [5,6] s.size (fun g v5 v6 wx=>∃ (k:Nat) (acc:List Tok),k<=s.size/\g=s.size - k/\v6 = .int .i64 (k:Nat)/\acc.length<=k/\Hid (lex s.data.toList (1,1)=(lex (s.data.toList.drop k) (pl s.data.toList k)).more acc) /\
  wx.ownsRow w.heap.size 66 5 v5 acc.length (toks acc)/\Sits wx w.heap.size 29 #[.int .i64 0,.int .i64 0]/\Below w.heap.size w wx)
 case atStart=>exact ⟨0,[],Nat.zero_le _,rfl,rfl,Nat.le_refl _,by show _=_;rw [El];rfl,World.ownsRow_nil _ _ _ _,Sits.new _ _ _,(Below.refl _ _).alloc (Nat.le_refl _) _⟩
 case round =>
  obtain ⟨k,acc,hk,rfl,rfl,hacc,HX,hown,hR,hb⟩:=hrel;obtain ⟨r0,r1,Y1,Y2⟩:=hR.all2;obtain ⟨wo,rfl⟩:∃ wo:World,wo=wr:=⟨_,rfl⟩
  by_cases hlt:k<s.size
  ·have hll:k<s.data.toList.length:=hlt
   have hin:=nX s k hlt;by_cases hbl:yE (fJ s k)=true
   ·have lh:=Lib.hid (HX.out.trans (congrArg _ (nz (Bf hll hbl))))
    rcases IA hbl with h1 | ⟨h1,h2⟩ | ⟨h1,h2,h3⟩
    all_goals
     go_wp2_with fail
     go_roundg (s.size - (k+1))
     case measure=>omega
     case rel=>exact ⟨k+1,acc,hlt,rfl,by go_num,by omega,lh,hown,hR,hb⟩
   have HB:=Lib.hid (Bool.eq_false_iff.2 hbl);obtain ⟨n32,n9,n10⟩:=Et HB.out;clear hbl;by_cases hre:(dJ s k == 35)=true
   ·go_wp2_with fail
    go_loopg [6] (s.size - k) (fun g v6 wx=>∃ j,k<=j/\j<=s.size/\g=s.size - j/\v6 = .int .i64 (j:Nat)/\Hid (Scan LM s.data.toList k j)/\wo=wx)
    case atStart=>exact ⟨k,Nat.le_refl _,hk,rfl,rfl,Scan.none _ _ _,rfl⟩
    case round =>
     obtain ⟨j,hkj,hj,rfl,rfl,HS,rfl⟩:=hrel;have hjl:j<=s.data.toList.length:=hj;by_cases hst:j=s.size \/ (dJ s j != 10)=false
     ·have ht:Stops LM s.data.toList j:=fun h=>by
       rcases hst with e | e
       ·exact absurd h (by rw [e];exact Nat.lt_irrefl _)
       ·exact (Cy s j).symm.trans e
      have ho:=yH hll HB.out ((yn s k).symm.trans hre) hkj hjl HS.out ht;have hpos:=Eo hll ho;have lh:=Lib.hid (HX.out.trans (congrArg _ (nz ho)));rw [show k+(j - k)=j by omega] at lh;clear ho ht;by_cases MU:j<s.size
      ·have hin2:=nX s j MU
       have hn:(dJ s j != 10)=false:=hst.resolve_left (by omega);clear hst;go_wp2_with fail
       go_roundg (s.size - j)
       case measure=>omega
       case rel=>exact ⟨j,acc,hj,rfl,rfl,by omega,lh,hown,hR,hb⟩
      ·clear hst
       go_wp2_with fail
       go_roundg (s.size - j)
       case measure=>omega
       case rel=>exact ⟨j,acc,hj,rfl,rfl,by omega,lh,hown,hR,hb⟩
     ·have MU:¬ j=s.size:=fun e=>hst (.inl e)
      have hjlt:j<s.size:=by omega
      have hin2:=nX s j hjlt;have hn:(dJ s j != 10)=true:=by cases h:(dJ s j != 10) <;> simp [h] at hst ⊢
      have HS2:=Lib.hid (HS.out.next ((Cy s j).symm.trans hn));clear hst;go_wp2_with fail
      go_roundg (s.size - (j+1))
      case measure=>omega
      case rel=>exact ⟨j+1,by omega,hjlt,rfl,by go_num,HS2,rfl⟩
   have n35:=Bool.eq_false_iff.2 hre;clear hre;have MV:=Lib.hid ((yn s k).symm.trans n35);by_cases hle:jA (fJ s k)=true
   ·have ND:iO (fJ s k)=false:=yj hle
    go_wp2_with fail
    refine (mg s k _ hs hk).mono ?_;rintro e w2 ⟨rfl,hb2⟩;have hm:=ou.begin hown hR hb hb2 #[.int .u8 0,.string .empty,.int .u64 0,.int .i64 (aY s k),.int .i64 (bL s k)];go_wp2_with (go_at_call 51;first | ((with_reducible refine (kK s _ _).mono ?_);rintro e w' ⟨rfl,rfl⟩) | ((with_reducible refine (mi s _ _).mono ?_);rintro e w' ⟨rfl,rfl⟩))
    go_loopg [8] (s.size - k) (fun g v8 wx=>∃ j,k<=j/\j<=s.size/\g=s.size - j/\v8 = .int .i64 (j:Nat)/\Hid (Scan cO s.data.toList k j)/\ou w wx u5 acc w2.heap.size #[.int .u8 0,.string .empty,.int .u64 0,.int .i64 (aY s k),.int .i64 (bL s k)])
    case atStart=>exact ⟨k,Nat.le_refl _,hk,rfl,rfl,Scan.none _ _ _,hm⟩
    case round =>
     obtain ⟨j,hkj,hj,rfl,rfl,HS,ko⟩:=hrel;have hjl:j<=s.data.toList.length:=hj;by_cases hld:cO (fJ s j)=true
     ·have hjlt:=RS hld
      have hin2:=nX s j hjlt;have HS2:=Lib.hid (HS.out.next (q:=cO) hld);go_wp2_with (go_at_call 51;first | ((with_reducible refine (kK s _ _).mono ?_);rintro e w' ⟨rfl,rfl⟩) | ((with_reducible refine (mi s _ _).mono ?_);rintro e w' ⟨rfl,rfl⟩))
      go_roundg (s.size - (j+1))
      case measure=>omega
      case rel=>exact ⟨j+1,by omega,hjlt,rfl,by go_num,HS2,ko⟩
     ·have hlf:=Bool.eq_false_iff.2 hld
      clear hld;have ho:=En hll HB.out MV.out ND hle hkj hjl HS.out (fun _=>hlf);have hpos:=vX hll ho;have lh:=Lib.hid (HX.out.trans (congrArg _ (jL ho)));rw [show k+(j - k)=j by omega,oC] at lh;clear ho;have k0:(0:Int)<=(k:Int):=Int.natCast_nonneg _;have k1:(k:Int)<=(j:Int):=by omega
      have k2:(j:Int)<=(s.size:Int):=by omega
      obtain ⟨p0,p1,p2,p3,p4,pp0,pp1,pp2,pp3,pp4⟩:=ko.hP.JW;have uH:=(ko.put 0 (.int .u8 2)).put 1 (.string (s.extract k j));have zz:=ko.low.size;by_cases MU:j<s.size
      ·have hin2:=nX s j MU
       go_wp2_with (first | (go_at_call 51;first | ((with_reducible refine (kK s _ _).mono ?_);rintro e w' ⟨rfl,rfl⟩) | ((with_reducible refine (mi s _ _).mono ?_);rintro e w' ⟨rfl,rfl⟩)) | (at_builtin;refine wpList_append_own _ rfl (.tmp 163) (.tmp 165) 53 rfl w.heap.size 66 i0 _ 5 48 Tryz.underlying53 hi hz0 hz1 hz2 rfl (by decide) _ acc.length (toks acc) rfl (uH.own.alloc _) ⟨wr.heap.size,0,none⟩ 1 1 [.int .u8 2,.string (s.extract k j),.int .u64 0,.int .i64 (aY s k),.int .i64 (bL s k)] rfl rfl (jh (by simp)) gT (by unfold maxLen;omega) (by omega) (by have:=uH.low.size;simp;omega) ?_))
       intro v3 w3 oK fK _;have wQ:=uH.grew (⟨2,(s.data.toList.drop k).take (j - k),0,(pl s.data.toList k).1,(pl s.data.toList k).2⟩:Tok) (by rw [jN];rfl) oK fK;clear oK fK;go_wp2_with fail
       go_roundg (s.size - j)
       case measure=>omega
       case rel=>exact ⟨j,_,by omega,rfl,rfl,by simp;omega,lh,wQ.1,wQ.2.1,wQ.2.2⟩
      ·go_wp2_with (first | (go_at_call 51;first | ((with_reducible refine (kK s _ _).mono ?_);rintro e w' ⟨rfl,rfl⟩) | ((with_reducible refine (mi s _ _).mono ?_);rintro e w' ⟨rfl,rfl⟩)) | (at_builtin;refine wpList_append_own _ rfl (.tmp 163) (.tmp 165) 53 rfl w.heap.size 66 i0 _ 5 48 Tryz.underlying53 hi hz0 hz1 hz2 rfl (by decide) _ acc.length (toks acc) rfl (uH.own.alloc _) ⟨wr.heap.size,0,none⟩ 1 1 [.int .u8 2,.string (s.extract k j),.int .u64 0,.int .i64 (aY s k),.int .i64 (bL s k)] rfl rfl (jh (by simp)) gT (by unfold maxLen;omega) (by omega) (by have:=uH.low.size;simp;omega) ?_))
       intro v3 w3 oK fK _;have wQ:=uH.grew (⟨2,(s.data.toList.drop k).take (j - k),0,(pl s.data.toList k).1,(pl s.data.toList k).2⟩:Tok) (by rw [jN];rfl) oK fK;clear oK fK;go_wp2_with fail
       go_roundg (s.size - j)
       case measure=>omega
       case rel=>exact ⟨j,_,by omega,rfl,rfl,by simp;omega,lh,wQ.1,wQ.2.1,wQ.2.2⟩
   have nL:=Bool.eq_false_iff.2 hle;clear hle;by_cases hdi:iO (fJ s k)=true
   ·have DG:cO (fJ s k)=true:=by unfold cO;rw [hdi,Bool.or_true]
    go_wp2_with fail
    refine (mg s k _ hs hk).mono ?_;rintro e w2 ⟨rfl,hb2⟩;have hm:=ou.begin hown hR hb hb2 #[.int .u8 0,.string .empty,.int .u64 0,.int .i64 (aY s k),.int .i64 (bL s k)];go_wp2_with (go_at_call 51;first | ((with_reducible refine (kK s _ _).mono ?_);rintro e w' ⟨rfl,rfl⟩) | ((with_reducible refine (mi s _ _).mono ?_);rintro e w' ⟨rfl,rfl⟩))
    go_loopg [8] (s.size - k) (fun g v8 wx=>∃ j,k<=j/\j<=s.size/\g=s.size - j/\v8 = .int .i64 (j:Nat)/\Hid (Scan iO s.data.toList k j)/\ou w wx u5 acc w2.heap.size #[.int .u8 0,.string .empty,.int .u64 0,.int .i64 (aY s k),.int .i64 (bL s k)])
    case atStart=>exact ⟨k,Nat.le_refl _,hk,rfl,rfl,Scan.none _ _ _,hm⟩
    case round =>
     obtain ⟨j,hkj,hj,rfl,rfl,HS,ko⟩:=hrel;have hjl:j<=s.data.toList.length:=hj;by_cases hdj:iO (fJ s j)=true
     ·have hjlt:=Ev hdj
      have hin2:=nX s j hjlt;obtain ⟨hb1,hb3⟩:=yM hdj;have HS2:=Lib.hid (HS.out.next (q:=iO) hdj);go_wp2_with fail
      go_roundg (s.size - (j+1))
      case measure=>omega
      case rel=>exact ⟨j+1,by omega,hjlt,rfl,by go_num,HS2,ko⟩
     ·have hdf:=Bool.eq_false_iff.2 hdj
      clear hdj;have pX:=Lib.hid (O7 s k j hkj hj);have HDS:Hid (∀ i,i<(s.extract k j).size->iO (fJ (s.extract k j) i)=true):=fun i hi=>by
       rw [pX.out] at hi;rw [Rz s k j i hi];exact HS.out (k+i) (by omega) (by omega)
      have a0F:k<j:=by
       rcases Nat.lt_or_ge k j with h | h
       ·exact h
       ·have e:j=k:=by omega
        rw [e,hdi] at hdf;cases hdf
      have k0:(0:Int)<=(k:Int):=Int.natCast_nonneg _;have k1:(k:Int)<=(j:Int):=by omega
      have k2:(j:Int)<=(s.size:Int):=by omega
      obtain ⟨p0,p1,p2,p3,p4,pp0,pp1,pp2,pp3,pp4⟩:=ko.hP.JW;obtain ⟨q0,q1,Y7,Y8⟩:=ko.hR.all2;have hPR:=ko.apart;have zz:=ko.low.size;have Xw:(¬ j<s.size) \/ (j<s.size/\dJ s j<48) \/ (j<s.size/\48<=dJ s j/\57<dJ s j):=by
       rcases Nat.lt_or_ge j s.size with h | h
       ·have e:iO (fJ s j)=(decide (48<=dJ s j) && decide (dJ s j<=57)):=by
         unfold iO dJ;congr 1 <;> (simp;omega)
        rw [e] at hdf;simp only [Bool.and_eq_false_iff,decide_eq_false_iff_not] at hdf
        omega
       ·exact .inl (by omega)
      have HDF:=Lib.hid hdf;clear hdf;have hin2:=nX s j;rcases Xw with hw | ⟨hw,hw1⟩ | ⟨hw,hw1,hw2⟩
      all_goals
       first | (have a0G:=hin2 hw) | skip
       clear hin2;go_wp2_with fail
       refine (Iw _ _ (by rw [pX.out];omega) HDS.out).mono ?_;rintro e w' ⟨a0q,rfl⟩;rcases a0q with ⟨hn,rfl⟩ | ⟨hn,rfl⟩
       ·rw [Ea] at hn
        have ho:=yI hll HB.out MV.out hdi hkj hjl HS.out (fun _=>HDF.out) hn;have lh:=Lib.hid (HX.out.trans (congrArg _ (jL ho)));rw [show k+(j - k)=j by omega,oC] at lh;clear ho hn;have uH:=((ko.put 0 (.int .u8 1)).put 2 (.int .u64 (numOf (s.extract k j):Nat))).put 1 (.string (s.extract k j));go_wp2_with (at_builtin;refine wpList_append_own _ rfl (.tmp 163) (.tmp 165) 53 rfl w.heap.size 66 i0 _ 5 48 Tryz.underlying53 hi hz0 hz1 hz2 rfl (by decide) _ acc.length (toks acc) rfl (uH.own.alloc _) ⟨wr.heap.size,0,none⟩ 1 1 [.int .u8 1,.string (s.extract k j),.int .u64 (numOf (s.extract k j):Nat),.int .i64 (aY s k),.int .i64 (bL s k)] rfl rfl (jh (by simp)) gT (by unfold maxLen;omega) (by omega) (by have:=uH.low.size;simp;omega) ?_)
        intro v3 w3 oK fK _;have wQ:=uH.grew (⟨1,(s.data.toList.drop k).take (j - k),aT s k j,(pl s.data.toList k).1,(pl s.data.toList k).2⟩:Tok) (by rw [Ea,jN];rfl) oK fK;clear oK fK;go_wp2_with fail
        go_roundg (s.size - j)
        case measure=>omega
        case rel=>exact ⟨j,_,by omega,rfl,rfl,by simp;omega,lh,wQ.1,wQ.2.1,wQ.2.2⟩
       ·rw [Ea] at hn
        have ho:=Lib.hid (qK hll HB.out MV.out hdi hkj hjl HS.out hn);clear hn;go_wp2_with fail
        go_region
        go_wp2
        refine bodyPost_ret (v:=.tuple #[.slice none 0 0,.agg #[.int .i64 (aY s k),.int .i64 (bL s k)],.int .i64 4]) (by simp [results,go_sem,q0,q1]) rfl ?_;rw [HX.out,yl ho.out];exact ⟨((ko.low.setCell (Nat.le_refl _) _).setCell (Nat.le_refl _) _).drew,rfl⟩
   have nD:=Bool.eq_false_iff.2 hdi;clear hdi;have SG:cO (fJ s k)=false:=by unfold cO;rw [nL,nD,Bool.or_false]
   go_wp2_with fail
   refine (mg s k _ hs hk).mono ?_;rintro e w2 ⟨rfl,hb2⟩;have hm:=ou.begin hown hR hb hb2 #[.int .u8 0,.string .empty,.int .u64 0,.int .i64 (aY s k),.int .i64 (bL s k)];go_wp2_with (go_at_call 51;first | ((with_reducible refine (kK s _ _).mono ?_);rintro e w' ⟨rfl,rfl⟩) | ((with_reducible refine (mi s _ _).mono ?_);rintro e w' ⟨rfl,rfl⟩))
   refine (Lt _).mono ?_;rintro e w3 ⟨rfl,rfl⟩;rw [<- FX];have hm2:=hm.alloc (.cells qo 9);have hG:Sits ((w2.alloc (.cells #[.int .u8 0,.string .empty,.int .u64 0,.int .i64 (aY s k),.int .i64 (bL s k)] 66)).alloc (.cells qo 9)) (w2.heap.size+1) 9 qo:=Sits.made (by simp) _ _;go_wp2_with fail
   go_loopg [8,13] 21 (fun g v8 v13 wx=>∃ q,q<=21/\g=21 - q/\v13 = .int .i64 (q:Nat)/\Sits wx (w2.heap.size+1) 9 qo/\ou w wx u5 acc w2.heap.size #[.int .u8 0,.string .empty,.int .u64 0,.int .i64 (aY s k),.int .i64 (bL s k)] /\
    ((v8 = .int .i64 (k:Nat)/\Hid (∀ p,p<q->hits s k p=false)) \/ (∃ p j:Nat,p<q/\Hid (hits s k p=true)/\Hid (∀ p',p' < p->hits s k p' = false)/\Hid (j=k+(uo p).size)/\k<j/\j<=s.size/\v8 = .int .i64 (j:Nat))))
   case atStart=>exact ⟨0,by omega,rfl,rfl,hG,hm2,.inl ⟨rfl,fun p hp=>absurd hp (by omega)⟩⟩
   case round =>
    obtain ⟨q,hq,rfl,rfl,YI,RB,a0r⟩:=hrel;obtain ⟨p0,p1,p2,p3,p4,pp0,pp1,pp2,pp3,pp4⟩:=RB.hP.JW;obtain ⟨q0,q1,Y7,Y8⟩:=RB.hR.all2;have hPR:=RB.apart;have zz:=RB.low.size;have k0:(0:Int)<=(k:Int):=Int.natCast_nonneg _;rcases a0r with ⟨rfl,SI⟩ | ⟨p,j,hpq,HH,HP,HJ,hkj,hj,rfl⟩
    ·by_cases U0:q<21
     ·have hc:=(YI.cell q).trans (Iy q U0)
      have hqa:(0:Int)<=(q:Int):=Int.natCast_nonneg _;have Q7:(q:Int)<21:=by omega
      obtain ⟨hz1',hz2'⟩:=O6 q U0;by_cases hfit:k+(uo q).size<=s.size
      ·have hf:((uo q).size:Int)<=(s.size:Int) - (k:Int):=by omega
       have hk9:(k:Int)+((uo q).size:Int)<=(s.size:Int):=by omega
       have hk8:(k:Int)<=(k:Int)+((uo q).size:Int):=by omega
       go_wp2_with fail
       go_quiet (fail)
       go_wp2_with fail
       ·have heq:((s.extract k (k+(uo q).size)).toList == (uo q).toList)=true:=by assumption
        have hh:hits s k q=true:=by unfold hits;rw [decide_eq_true hfit,Bool.true_and];exact heq
        clear heq
        go_roundg (21 - (q+1))
        case measure=>omega
        case rel=>exact ⟨q+1,by omega,rfl,by go_num,YI,RB.drewN _,.inr ⟨q,k+(uo q).size,Nat.lt_succ_self q,hh,SI,rfl,by omega,hfit,by go_num⟩⟩
       ·have heq:((s.extract k (k+(uo q).size)).toList == (uo q).toList)=false:=by assumption
        have hh:hits s k q=false:=by unfold hits;rw [heq,Bool.and_false]
        clear heq
        go_roundg (21 - (q+1))
        case measure=>omega
        case rel=>exact ⟨q+1,by omega,rfl,by go_num,YI,RB.drewN _,.inl ⟨rfl,fun p hp=>by
         rcases Nat.lt_or_eq_of_le (Nat.le_of_lt_succ hp) with h | h
         ·exact SI.out p h
         ·rw [h];exact hh⟩⟩
      ·have hf:decide (((uo q).size:Int)<=(s.size:Int) - (k:Int))=false:=by simp;omega
       have hh:hits s k q=false:=by unfold hits;rw [decide_eq_false hfit,Bool.false_and]
       have HHH:=Lib.hid hh;clear hh;clear hfit;go_wp2_with fail
       go_quiet (fail)
       go_wp2_with fail
       go_roundg (21 - (q+1))
       case measure=>omega
       case rel=>exact ⟨q+1,by omega,rfl,by go_num,YI,RB.drewN _,.inl ⟨rfl,fun p hp=>by
        rcases Nat.lt_or_eq_of_le (Nat.le_of_lt_succ hp) with h | h
        ·exact SI.out p h
        ·rw [h];exact HHH.out⟩⟩
     ·obtain rfl:q=21:=by omega
      have ho:=Lib.hid (Er hll HB.out MV.out nD nL (Lu s k hlt SI.out));go_wp2_with fail
      go_region
      go_wp2
      refine bodyPost_ret (v:=.tuple #[.slice none 0 0,.agg #[.int .i64 (aY s k),.int .i64 (bL s k)],.int .i64 3]) (by simp [results,go_sem,q0,q1]) rfl ?_;rw [HX.out,yl ho.out];exact ⟨((RB.low.setCell (Nat.le_refl _) _).setCell (Nat.le_refl _) _).drew,rfl⟩
    ·have hf:=Iz s k p hlt (by omega) HH.out HP.out
     have lh:=Lib.hid (pg HX.out (d:=3) (n:=(uo p).size) (v:=0) (by rw [Ep hll HB.out MV.out nD nL hf.1,hf.2];rfl) HJ.out);clear hf;have hE:((j:Int) == (k:Int))=false:=by simp;omega
     have k1:(k:Int)<=(j:Int):=by omega
     have k2:(j:Int)<=(s.size:Int):=by omega
     have uH:=(RB.put 0 (.int .u8 3)).put 1 (.string (s.extract k j));by_cases U0:q<21
     ·go_wp2_with (at_builtin;refine wpList_append_own _ rfl (.tmp 163) (.tmp 165) 53 rfl w.heap.size 66 i0 _ 5 48 Tryz.underlying53 hi hz0 hz1 hz2 rfl (by decide) _ acc.length (toks acc) rfl (uH.own.alloc _) ⟨wr.heap.size,0,none⟩ 1 1 [.int .u8 3,.string (s.extract k j),.int .u64 0,.int .i64 (aY s k),.int .i64 (bL s k)] rfl rfl (jh (by simp)) gT (by unfold maxLen;omega) (by omega) (by have:=uH.low.size;simp;omega) ?_)
      intro v3 w3 oK fK _;have wQ:=uH.grew (⟨3,(s.data.toList.drop k).take (j - k),0,(pl s.data.toList k).1,(pl s.data.toList k).2⟩:Tok) (by rw [jN];rfl) oK fK;clear oK fK;go_wp2_with fail
      go_roundg (s.size - j)
      case measure=>omega
      case rel=>exact ⟨j,_,hj,rfl,rfl,by simp;omega,lh,wQ.1,wQ.2.1,wQ.2.2⟩
     ·go_wp2_with (at_builtin;refine wpList_append_own _ rfl (.tmp 163) (.tmp 165) 53 rfl w.heap.size 66 i0 _ 5 48 Tryz.underlying53 hi hz0 hz1 hz2 rfl (by decide) _ acc.length (toks acc) rfl (uH.own.alloc _) ⟨wr.heap.size,0,none⟩ 1 1 [.int .u8 3,.string (s.extract k j),.int .u64 0,.int .i64 (aY s k),.int .i64 (bL s k)] rfl rfl (jh (by simp)) gT (by unfold maxLen;omega) (by omega) (by have:=uH.low.size;simp;omega) ?_)
      intro v3 w3 oK fK _;have wQ:=uH.grew (⟨3,(s.data.toList.drop k).take (j - k),0,(pl s.data.toList k).1,(pl s.data.toList k).2⟩:Tok) (by rw [jN];rfl) oK fK;clear oK fK;go_wp2_with fail
      go_roundg (s.size - j)
      case measure=>omega
      case rel=>exact ⟨j,_,hj,rfl,rfl,by simp;omega,lh,wQ.1,wQ.2.1,wQ.2.2⟩
  ·obtain rfl:k=s.size:=by omega
   go_wp2_with fail
   refine (mg s s.size _ hs (Nat.le_refl _)).mono ?_;rintro e w2 ⟨rfl,hb2⟩;have hown2:=qM hown (xz hb2) (fun g hg=>by have:=(hown.lt g hg).2;omega);have hR2:=hR.below hb2 hR.lt;have hbb:=hb.trans (hb2.mono hb.size);go_wp2_with (at_builtin;refine wpList_append_own _ rfl (.tmp 168) (.tmp 174) 53 rfl w.heap.size 66 i0 _ 5 48 Tryz.underlying53 hi hz0 hz1 hz2 rfl (by decide) _ acc.length (toks acc) rfl (hown2.alloc _) ⟨w2.heap.size,0,none⟩ 1 1 [.int .u8 0,.string ⟨#[]⟩,.int .u64 0,.int .i64 (aY s s.size),.int .i64 (bL s s.size)] rfl rfl (jh (by simp)) gT (by unfold maxLen;omega) (by omega) (by have:=hbb.size;simp;omega) ?_)
   intro v3 w3 oK fK _;have VL:=(hR2.alloc _).grown fK (aK hown2 hR2 (by decide));obtain ⟨q0,q1,Y7,Y8⟩:=VL.all2;have Xx:w3.ownsRow w.heap.size 66 5 v3 (acc ++ [(⟨0,[],0,(pl s.data.toList s.size).1,(pl s.data.toList s.size).2⟩:Tok)]).length (toks (acc ++ [(⟨0,[],0,(pl s.data.toList s.size).1,(pl s.data.toList s.size).2⟩:Tok)])):=by
    rw [List.length_append,vY];exact oK
   have a0s:Below w.heap.size w w3:=(hbb.alloc hbb.size _).grown fK (by have:=hbb.size;simp;omega) (fun g hg=>(hown2.lt g hg).1);have hne:=aK Xx VL (by decide);clear oK fK;go_wp2
   refine bodyPost_ret (v:=.tuple #[v3,.agg #[.int .i64 0,.int .i64 0],.int .i64 0]) (by simp [results,go_sem,q0,q1]) rfl ?_;rw [HX.out,show s.data.toList.drop s.size=[] from List.drop_of_length_le (Nat.le_refl _),IW];exact ⟨(a0s.setCell (Nat.le_refl _) _).setCell (Nat.le_refl _) _,v3,rfl,ownsRow_setCell_other (ownsRow_setCell_other Xx hne _) hne _⟩
theorem O8 (s:ByteArray) (w:World) (hs:4096<s.size) (hm:s.size<=9223372036854775807) :
  Calls Tryz.prog 13 #[.string s] w fun e w'=>D9 (.err 4 1 1) w e w':=by
 go_enter Tryz.func13,Tryz.ntmps13;go_wp2
 refine bodyPost_ret (v:=.tuple #[.slice none 0 0,.agg #[.int .i64 1,.int .i64 1],.int .i64 4]) (by simp [results,go_sem]) rfl ?_;exact ⟨(Below.refl _ _).alloc (Nat.le_refl _) _,rfl⟩
theorem RD (s:ByteArray) (w:World) (hm:s.size<=9223372036854775807):Calls Tryz.prog 13 #[.string s] w fun e w'=>D9 (fq s.data.toList) w e w':=by
 by_cases h:s.size<=4096
 ·have e:fq s.data.toList=lex s.data.toList (1,1):=if_pos h
  rw [e];exact RA s w h
 ·have e:fq s.data.toList = .err 4 1 1:=if_neg h
  rw [e];exact O8 s w (by omega) hm
end Go.Proofs.YtaanhmndeobgbaaGreatDoor.Lex
