/- Part 16 of the proof: what is used of the texts PrsC, PrsD, PrsE. -/
import Derived.Test.YtaanhmndeobgbaaGreatDoorGB4
import Derived.Test.YtaanhmndeobgbaaGreatDoorGB3
import Derived.Test.YtaanhmndeobgbaaGreatDoorGA6
import Derived.Laws.EntriesVeiled
set_option maxRecDepth 100000
set_option maxHeartbeats 1000000
namespace Go.Proofs.YtaanhmndeobgbaaGreatDoor.fT
open Go.RowKit Mem Go.Proofs.YtaanhmndeobgbaaGreatDoor.Expr
open Lex (Tok)
def sO (n:Nat) (s:List UInt8) (i:Nat):Bool:=decide (sides i=n) && decide (sign i=s)
theorem Fe {n j:Nat} {s:List UInt8} (h1:1<=j) (h2:j<=14) (hj:sO n s j=true) (hb:∀ i,1<=i->i<j->sO n s i=false):mE n s=j:=by
 have e:mE n s=(([1,2,3,4,5,6,7,8,9,10,11,12,13,14]:List Nat).find? (sO n s)).getD 0:=rfl;rw [e];have hb':∀ i,1<=i->i<j->¬ sO n s i=true:=fun i a b=>by rw [hb i a b];exact Bool.false_ne_true
 obtain rfl | rfl | rfl | rfl | rfl | rfl | rfl | rfl | rfl | rfl | rfl | rfl | rfl | rfl:j=1 \/ j=2 \/ j=3 \/ j=4 \/ j=5 \/ j=6 \/ j=7 \/ j=8 \/ j=9 \/ j=10 \/ j=11 \/ j=12 \/ j=13 \/ j=14:=by omega
 all_goals
  repeat (first | rw [List.find?_cons_of_pos hj] | rw [List.find?_cons_of_neg (hb' _ (by omega) (by omega))])
  rfl
theorem wR {n:Nat} {s:List UInt8} (hb:∀ i,1<=i->i<15->sO n s i=false):mE n s=0:=by
 have e:mE n s=(([1,2,3,4,5,6,7,8,9,10,11,12,13,14]:List Nat).find? (sO n s)).getD 0:=rfl;rw [e,List.find?_eq_none.2]
 ·rfl
 ·intro i hi
  rw [hb i (by simp at hi;omega) (by simp at hi;omega)];exact Bool.false_ne_true
theorem tL (t:Lex.Tok) (n:Nat) (w:World) (hX:pE w):Calls Tryz.prog 121 #[.agg (pc t),.int .i64 (n:Nat)] w fun e w'=>Made (.returned (.int .u8 (mE n t.text:Nat))) w e w':=by
 have hb:Below w.heap.size w (w.alloc (.cells (pc t) 99)):=(Below.refl _ _).alloc (Nat.le_refl _) _;have HB:=Lib.hid hb;have iW:=Lib.hid (Sits.new w 99 (pc t));have HX:=Lib.hid (hX.below hb);have yt:=Lib.hid (fun i=>str_eq (sign i) t.text);clear hX hb;unfold pc at iW HB HX ⊢;generalize str t.text=x at iW HB HX yt ⊢;go_enter Tryz.func121,Tryz.ntmps121;go_wp2_with fail
 generalize w.alloc (.cells #[.int .u8 t.kind,.string x,.int .u64 t.num,.int .i64 t.line,.int .i64 t.xy] 99)=w1 at HB iW HX ⊢;generalize w.heap.size=g at iW ⊢
 go_loopg [5] 14 (fun gg v5 wx=>∃ j,1<=j/\j<=15/\gg=15 - j/\v5 = .int .u8 (j:Nat)/\Hid (Below w1.heap.size w1 wx)/\Hid (∀ i,1<=i->i<j->sO n t.text i=false))
 case atStart=>exact ⟨1,by omega,by omega,rfl,rfl,Lib.hid (Below.refl _ _),Lib.hid fun i h1 h2=>by omega⟩
 case round =>
  obtain ⟨j,h1,h15,rfl,rfl,AO,HF⟩:=hrel;by_cases hj:j<=14
  ·have m1:(j:Int)<=14:=by omega
   have m0:(1:Int)<=(j:Int):=by omega
   have YS:=Lib.hid (fun y:Within (Under wr)=>jC j y.now);have YT:=Lib.hid (fun y:Within (Under wr)=>Expr.fA j (by omega) y.now ((HX.out.below AO.out).below y.ok));have LV:=Lib.hid (iW.out.below AO.out iW.out.lt);have HE:=Lib.hid (yt.out j);generalize str (sign j)=y at YT HE;by_cases hs:sides j=n
   ·have es:((sides j:Int) == (n:Int))=true:=by rw [hs];exact beq_iff_eq.2 rfl
    by_cases ht:sign j=t.text
    ·have et:(y.toList == x.toList)=true:=by rw [HE.out];exact decide_eq_true ht
     have HO:=Lib.hid (Fe h1 hj (by unfold sO;rw [decide_eq_true hs,decide_eq_true ht];rfl) HF.out);generalize hsd:sides j=sd at es YS;clear hs ht hsd;go_wp2_with fail
     have X1:∀ y:Within (Under wr),y.now.cell? ⟨g,1,none⟩=some (.string x):=fun y=>(LV.out.below y.ok LV.out.lt).cell 1
     have LT:∀ y:Within (Under wr),g<y.now.heap.size:=fun y=>(LV.out.below y.ok LV.out.lt).lt
     have ne:Nonempty (Within (Under wr)):=⟨⟨_,Under.refl wr⟩⟩
     refine bS (Under wr) (Under.refl wr) (by kernel_rfl) (by kernel_rfl) ?_
     repeat (go_big_quiet_step (first | with_reducible exact oI (YS.out _) | with_reducible exact oI (YT.out _)))
     refine wpQuiet_nil ?_;intro w3 hw3;have hb:Under wr w3:=by obtain ⟨y,rfl⟩:=hw3;exact y.ok
     have HB3:=Lib.hid (AO.out.trans (hb.mono AO.out.size));clear hw3 hb X1 LT ne;go_wp2_with fail
     go_ret;rw [HO.out];exact ⟨rfl,HB.out.trans (HB3.out.mono HB.out.size)⟩
    ·have et:(y.toList == x.toList)=false:=by rw [HE.out];exact decide_eq_false ht
     have HN:=Lib.hid (show sO n t.text j=false by unfold sO;rw [decide_eq_false ht,Bool.and_false]);generalize hsd:sides j=sd at es YS;clear hs ht hsd;go_wp2_with fail
     have X1:∀ y:Within (Under wr),y.now.cell? ⟨g,1,none⟩=some (.string x):=fun y=>(LV.out.below y.ok LV.out.lt).cell 1
     have LT:∀ y:Within (Under wr),g<y.now.heap.size:=fun y=>(LV.out.below y.ok LV.out.lt).lt
     have ne:Nonempty (Within (Under wr)):=⟨⟨_,Under.refl wr⟩⟩
     refine bS (Under wr) (Under.refl wr) (by kernel_rfl) (by kernel_rfl) ?_
     repeat (go_big_quiet_step (first | with_reducible exact oI (YS.out _) | with_reducible exact oI (YT.out _)))
     refine wpQuiet_nil ?_;intro w3 hw3;have hb:Under wr w3:=by obtain ⟨y,rfl⟩:=hw3;exact y.ok
     have HB3:=Lib.hid (AO.out.trans (hb.mono AO.out.size));clear hw3 hb X1 LT ne;go_wp2_with fail
     go_roundg (15 - (j+1))
     case measure=>omega
     case rel=>exact ⟨j+1,by omega,by omega,rfl,by go_num,HB3,Lib.hid fun i h1 h2=>by
      by_cases e:i<j
      ·exact HF.out i h1 e
      ·obtain rfl:i=j:=by omega
       exact HN.out⟩
   ·have es:((sides j:Int) == (n:Int))=false:=beq_eq_false_iff_ne.2 (fun h=>hs (by omega))
    have HN:=Lib.hid (show sO n t.text j=false by unfold sO;rw [decide_eq_false hs,Bool.false_and]);generalize hsd:sides j=sd at es YS;clear hs hsd;go_wp2_with fail
    have X1:∀ y:Within (Under wr),y.now.cell? ⟨g,1,none⟩=some (.string x):=fun y=>(LV.out.below y.ok LV.out.lt).cell 1
    have LT:∀ y:Within (Under wr),g<y.now.heap.size:=fun y=>(LV.out.below y.ok LV.out.lt).lt
    have ne:Nonempty (Within (Under wr)):=⟨⟨_,Under.refl wr⟩⟩
    refine bS (Under wr) (Under.refl wr) (by kernel_rfl) (by kernel_rfl) ?_
    repeat (go_big_quiet_step (first | with_reducible exact oI (YS.out _) | with_reducible exact oI (YT.out _)))
    refine wpQuiet_nil ?_;intro w3 hw3;have hb:Under wr w3:=by obtain ⟨y,rfl⟩:=hw3;exact y.ok
    have HB3:=Lib.hid (AO.out.trans (hb.mono AO.out.size));clear hw3 hb X1 LT ne;go_wp2_with fail
    go_roundg (15 - (j+1))
    case measure=>omega
    case rel=>exact ⟨j+1,by omega,by omega,rfl,by go_num,HB3,Lib.hid fun i h1 h2=>by
     by_cases e:i<j
     ·exact HF.out i h1 e
     ·obtain rfl:i=j:=by omega
      exact HN.out⟩
  ·obtain rfl:j=15:=by omega
   have HO:=Lib.hid (wR HF.out);go_wp2_with fail
   go_ret;rw [HO.out];exact ⟨rfl,HB.out.trans (AO.out.mono HB.out.size)⟩
theorem zg (a b c d e:Value) (w:World):(Instr.field 99 (.agg #[a,b,c,d,e]) 0).run Tryz.prog w = .ok a w:=by kernel_rfl
theorem Bw (a b c d e:Value) (w:World):(Instr.field 99 (.agg #[a,b,c,d,e]) 2).run Tryz.prog w = .ok c w:=by kernel_rfl
def qx:Ex->Ending->World->Prop:=fun a e w=>∃ p,e = .returned (.pointer p)/\Tree w (bA a) (.pointer p)
def jG (it:It):Array Value:=aM it (.pointer none) (.pointer none)
theorem pU {a:Ex} (he:a.vZ=true) (w:World) (c:Array Value) (h:c=jG (jQ a)):qx a (.returned (.pointer (some ⟨w.heap.size,0,none⟩))) (w.alloc (.cells c 159)) :=
 ⟨_,rfl,by rw [(wm he).1,h];exact ⟨w.heap.size,.pointer none,.pointer none,rfl,Sits.new _ _ _,rfl,rfl⟩⟩
section
variable {w : World} {gR gp cap : Nat} {ts : List Lex.Tok} {k : Nat}
theorem Ff {ask:Bool} (hq:au ts k=1) (ha:ask=true->aj ts (k+1) ≠ [58]):fo ts ask k = .ok (.num (aT ts k)) (k+1):=by
 unfold fo;cases ask with
 | false=>simp [hq]
 | true=>simp [hq,ha rfl]
theorem M5 (hq:au ts k≠1):fo ts false k=(gy ts k).map .reg:=by simp [fo,hq]
theorem M6 (hq:au ts k≠1):fo ts true k=(jo ts k).map .loc:=by simp [fo,hq]
theorem M7 (hq:au ts k=1) (ha:aj ts (k+1)=[58]) (hn:¬ aT ts k<4):fo ts true k = .bad k 7:=by simp [fo,hq,ha,hn]
theorem Qp (hq:au ts k=1) (ha:aj ts (k+1)=[58]) (hn:aT ts k<4):fo ts true k=(gy ts (k+2)).map (.of (aT ts k)):=by simp [fo,hq,ha,hn]
theorem Jg {t:Nat} (q:Nat):((t:Int) == (q:Int))=decide (t=q):=by
 rw [Bool.eq_iff_iff,beq_iff_eq,decide_eq_true_eq];omega
theorem Kr (h:Rd w gR gp cap ts k):Calls Tryz.prog 143 #[.pointer (some ⟨gR,0,none⟩)] w (Done gR gp cap ts qx (fo ts false k) w):=by
 have hfk:=zg;have hfn:=Bw;have HN:=Lib.hid (je h);have HT:=Lib.hid (fun W (hb:Below w.heap.size w W)=>mG (h.below hb));have HG:=Lib.hid (fun W (hb:Below w.heap.size w W)=>jP (h.below hb));have HM:=Lib.hid (fun e=>h.good.more k h.lt e);have HE:=Jg (t:=au ts k) 1;change Hid (Calls _ _ _ _ fun e w'=>Made (.returned (.agg #[.int .u8 (au ts k:Nat),.string (str (aj ts k)),.int .u64 (aT ts k:Nat),.int .i64 (tk ts k).line,.int .i64 (tk ts k).xy])) w e w') at HN;clear h;generalize str (aj ts k)=x at HN;go_enter Tryz.func143,Tryz.ntmps143;by_cases hq:au ts k=1
 ·rw [decide_eq_true hq] at HE
  have HL:=Lib.hid (Ff (ts:=ts) (ask:=false) hq (fun h=>by cases h));have rz:=Lib.hid (HM.out (by omega));clear hq;go_wp2_with fail
  refine HN.out.mono ?_;rintro e w1 ⟨rfl,hb⟩;have HB:=Lib.hid hb;clear hb;go_wp2_with fail
  refine (HT.out _ HB.out).mono ?_;rintro e w2 ⟨rfl,hk,hr⟩;have HK:=Lib.hid (show aa (fun x=>x=gR) w w2 from (aa.of_below HB.out).trans hk);have HR:=Lib.hid (hr rz.out);clear hk hr;unfold pc;go_wp2_with fail
  go_ret;rw [HL.out];have ha:Below w2.heap.size w2 (w2.alloc (.cells (jG (jQ (.num (aT ts k)))) 159)):=(Below.refl _ _).alloc (Nat.le_refl _) _;exact ⟨HK.out.trans (aa.of_below ha),pU (a:=.num (aT ts k)) rfl w2 _ rfl,HR.out.below ha⟩
 ·rw [decide_eq_false hq] at HE
  have HL:=Lib.hid (M5 (ts:=ts) hq);clear hq;go_wp2_with fail
  refine HN.out.mono ?_;rintro e w1 ⟨rfl,hb⟩;have HB:=Lib.hid hb;clear hb;go_wp2_with fail
  refine (HG.out _ HB.out).mono ?_;rintro e w2 ⟨hk,hp⟩;have HK:=Lib.hid (show aa (fun x=>x=gR) w w2 from (aa.of_below HB.out).trans hk);clear hk;cases ho:gy ts k with
  | ok a k2 =>
   rw [ho] at hp HL;obtain ⟨hv,hr⟩:=hp;simp only [Bv] at hv
   subst hv;have HR:=Lib.hid hr;clear hr ho;go_wp2_with fail
   go_ret;rw [HL.out];have ha:Below w2.heap.size w2 (w2.alloc (.cells (jG (jQ (.reg a))) 159)):=(Below.refl _ _).alloc (Nat.le_refl _) _;exact ⟨HK.out.trans (aa.of_below ha),pU (a:=.reg a) rfl w2 _ rfl,HR.out.below ha⟩
  | bad j er =>
   rw [ho] at hp HL;simp only at hp
   subst hp;clear ho;go_wp2_with fail
   rw [HL.out];exact ⟨rfl,HK.out,rfl⟩
def VV (gR gp cap:Nat) (ts:List Lex.Tok) (k:Nat):Value->World->Prop:=fun u W=>∃ a k3,gy ts k = .ok a k3/\u = .int .u8 (a:Nat)/\Rd W gR gp cap ts k3
def Kt (ts:List Lex.Tok) (k n:Nat):Value->World->Prop:=fun u _=>∃ a k3,gy ts k = .ok a k3/\u = .agg (jG (jQ (.of n a)))
def C8 (ts:List Lex.Tok) (k n gR:Nat):Value->World->Prop:=fun u W=>∃ a k3,gy ts k = .ok a k3/\∃ g,u = .pointer (some ⟨g,0,none⟩)/\g≠gR/\Sits W g 159 (jG (jQ (.of n a)))
def Zi (gR:Nat) (ts:List Lex.Tok) (k:Nat) (w:World):List PanicEntry->World->Prop:=fun c W=>∃ j er,gy ts k = .bad j er/\c=GM (tk ts j) er/\aa (fun x=>x=gR) w W
theorem M8 {n:Nat} (h:n<256):IntKind.wrap .u8 (n:Int)=n:=by show (n:Int) % 256=n;omega
theorem Ku (h:Rd w gR gp cap ts k):Calls Tryz.prog 47 #[.pointer (some ⟨gR,0,none⟩)] w (Done gR gp cap ts qx (fo ts true k) w):=by
 have hfk:=zg;have HN:=Lib.hid (je h);have HT:=Lib.hid (fun W (hb:Below w.heap.size w W)=>mG (h.below hb));have HG:=Lib.hid (fun W (hb:Below w.heap.size w W)=>pR (h.below hb));have HM:=Lib.hid (fun e=>h.good.more k h.lt e);have Ar:=Lib.hid (show gR<w.heap.size from h.box.lt);have HU:=Lib.hid (h.good.num k);have HE:((au ts k:Int) != (1:Int)) = !decide (au ts k=1):=congrArg Bool.not (Jg (t:=au ts k) 1);change Hid (Calls _ _ _ _ fun e w'=>Made (.returned (.agg #[.int .u8 (au ts k:Nat),.string (str (aj ts k)),.int .u64 (aT ts k:Nat),.int .i64 (tk ts k).line,.int .i64 (tk ts k).xy])) w e w') at HN;clear h;generalize str (aj ts k)=x at HN;go_enter Tryz.func47,Tryz.ntmps47;by_cases hq:au ts k=1
 ·rw [decide_eq_true hq] at HE
  have rz:=Lib.hid (HM.out (by omega));have HQ:=Lib.hid hq;clear hq;go_wp2_with fail
  refine HN.out.mono ?_;rintro e w1 ⟨rfl,hb⟩;have HB:=Lib.hid hb;clear hb;go_wp2_with fail
  refine (HT.out _ HB.out).mono ?_;rintro e w2 ⟨rfl,hk,hr⟩;have HK:=Lib.hid (show aa (fun x=>x=gR) w w2 from (aa.of_below HB.out).trans hk);have hR2:=hr rz.out;have hz:=Sits.new w2 99 ay;have HZ:=Lib.hid hz;have hkk:=bK (w2.alloc (.cells ay 99)) w2.heap.size (pc (tk ts k));have hs:Sits ((w2.alloc (.cells ay 99)).setRow w2.heap.size (pc (tk ts k))) w2.heap.size 99 (pc (tk ts k)):=setRow_heap _ _ _ _ _ _ hz;have hlow:Below w2.heap.size w2 ((w2.alloc (.cells ay 99)).setRow w2.heap.size (pc (tk ts k))):=behind ((Below.refl _ _).alloc (Nat.le_refl _) _) hkk (by simp) (fun x e=>by rw [e];exact Nat.le_refl _);have HR:=Lib.hid (hR2.below hlow);have HH:=Lib.hid (lU (hR2.below hlow) [58] (by simp));have fH:=Lib.hid (show gR≠w2.heap.size by have:=HK.out.size;have:=Ar.out;omega);clear hk hr hR2 hz hkk;go_upto_region 4 with (refine wpList_store_row rfl 99 _ _ rfl w2.heap.size (pc (tk ts k)) rfl rfl 99 ay HZ.out jq rfl (jr _) ?_)
  change Code.wp _ _ _ _ ((w2.alloc (.cells ay 99)).setRow w2.heap.size (pc (tk ts k)));have ve:=Lib.hid (HK.out.trans (aa.of_below hlow));generalize (w2.alloc (.cells ay 99)).setRow w2.heap.size (pc (tk ts k))=W3 at hs hlow HR HH ve ⊢;generalize w2.heap.size=g0 at hs fH ⊢;have HS:=Lib.hid hs;clear hs hlow HZ HK HN HT HG;go_wp2_with fail
  refine HH.out.mono ?_;intro e w4 hp;rcases hp with ⟨hc,rfl,hk,hr⟩ | ⟨hc,rfl,hb⟩
  ·have HC:=Lib.hid hc
   have HR4:=Lib.hid hr;have qJ:=Lib.hid (ve.out.trans hk);have rZ:=Lib.hid (HS.out.keep hk fH.out.symm);clear hc hr hk HR HH;obtain ⟨z0,z1,z2,z3,z4⟩:=ku rZ.out;have lz:=rZ.out.lt;by_cases hn:aT ts k<4
   ·have hn1:¬ (4:Int)<=((tk ts k).num:Int):=by have:(tk ts k).num<4:=hn;omega
    have HL:=Lib.hid (Qp HQ.out HC.out hn);have HU8:=Lib.hid (M8 (show (tk ts k).num<256 by have:(tk ts k).num<4:=hn;omega));have Jh:=Lib.hid (fun W (hb:Below w4.heap.size w4 W)=>jP (HR4.out.below hb));have mK:∀ x,ae.ll (aa (fun y=>y=gR)) (ae.aV x):=fun x=>ae.dx x
    clear hn;go_wp2_with fail
    refine ae.M3 ae.kE (ae.Ko (fun x=>x=gR)) (fun x y h=>aa.of_below h) [26,27,28,29,30,31,32]
     [ae.aV (.pointer (some ⟨g0,2,none⟩)),ae.aV (.int .u64 (tk ts k).num),ae.aV (.int .u8 (tk ts k).num),ae.aV (.pointer (some ⟨gR,0,none⟩)),VV gR gp cap ts (k+2),Kt ts (k+2) (aT ts k),C8 ts (k+2) (aT ts k) gR] 4
     (Zi gR ts (k+2) w) (by decide) (by kernel_rfl) (by kernel_rfl) (by kernel_rfl) (by kernel_rfl) (by rfl) ?_ ?_ ?_ ?_ ?_ ?_
    ·simp only [List.mem_cons,List.not_mem_nil,or_false,forall_eq_or_imp,forall_eq]
     refine ⟨ae.dx _,ae.dx _,ae.dx _,ae.dx _,?_,?_,?_⟩
     ·rintro u W W' ⟨a,k3,h1,h2,h3⟩ hb
      exact ⟨a,k3,h1,h2,h3.below hb⟩
     ·rintro u W W' h hb
      exact h
     ·rintro u W W' ⟨a,k3,h1,g,h2,h3,h4⟩ hb
      exact ⟨a,k3,h1,g,h2,h3,h4.below hb h4.lt⟩
    ·intro i hi
     match i,hi with
     | 0,_=>exact mK _
     | 1,_=>exact mK _
     | 2,_=>exact mK _
     | 3,_=>exact mK _
     | 5,_=>exact fun u W W' h _=>h
     | 6,_=>exact fun u W W' ⟨a,k3,h1,g,h2,h3,h4⟩ hk=>⟨a,k3,h1,g,h2,h3,h4.keep hk h3⟩
     | n+7,_=>exact fun u W W' _ _=>trivial
    ·intro i o' hi hia ho A W hW hk he
     have VW:=rZ.out.keep hW fH.out.symm;simp only [List.length_cons,List.length_nil,Nat.zero_add,Nat.reduceAdd] at hi
     obtain rfl | rfl | rfl | rfl | rfl | rfl:i=0 \/ i=1 \/ i=2 \/ i=3 \/ i=5 \/ i=6:=by omega
     all_goals (injection ho with ho;subst ho)
     ·have t3:A.tmps[3]?.getD undef = .pointer (some ⟨g0,0,none⟩):=hk 3 (by rfl)
      refine .inl ⟨by kernel_rfl,?_⟩;go_simp
      exact ⟨rfl,Below.refl _ _⟩
     ·have s26:A.tmps[26]?.getD undef = .pointer (some ⟨g0,2,none⟩):=he 0 (by decide) (by kernel_rfl)
      have cc:=VW.cell 2;unfold pc at cc;refine .inl ⟨by kernel_rfl,?_⟩;go_simp
      exact ⟨rfl,Below.refl _ _⟩
     ·have s27:A.tmps[27]?.getD undef = .int .u64 (tk ts k).num:=he 1 (by decide) (by kernel_rfl)
      refine .inl ⟨by kernel_rfl,?_⟩;go_simp
      exact ⟨congrArg (Value.int .u8) HU8.out,Below.refl _ _⟩
     ·have t0:A.tmps[0]?.getD undef = .pointer (some ⟨gR,0,none⟩):=hk 0 (by rfl)
      refine .inl ⟨by kernel_rfl,?_⟩;go_simp
      exact ⟨rfl,Below.refl _ _⟩
     ·have s28:A.tmps[28]?.getD undef = .int .u8 (tk ts k).num:=he 2 (by decide) (by kernel_rfl)
      have Zj:VV gR gp cap ts (k+2) (A.tmps[30]?.getD undef) W:=he 4 (by decide) (by kernel_rfl);obtain ⟨a,k3,h1,Zj,_⟩:=Zj;have H1:=Lib.hid h1;clear h1;refine .inl ⟨by kernel_rfl,?_⟩;go_simp
      exact ⟨⟨a,k3,H1.out,rfl⟩,Below.refl _ _⟩
     ·have X9:Kt ts (k+2) (aT ts k) (A.tmps[31]?.getD undef) W:=he 5 (by decide) (by kernel_rfl)
      obtain ⟨a,k3,h1,X9⟩:=X9;have H1:=Lib.hid h1;have HLG:=Lib.hid (show W.heap.size≠gR by have:=VW.lt;have:=Ar.out;have:=qJ.out.size;have:=hW.size;omega);clear h1;refine .inl ⟨by kernel_rfl,?_⟩;unfold jG jQ aM at X9;go_simp
      exact ⟨⟨a,k3,H1.out,W.heap.size,rfl,HLG.out,Sits.new _ _ _⟩,(Below.refl _ _).alloc (Nat.le_refl _) _⟩
    ·intro o' ho A W hW hk he
     injection ho with ho;subst ho;have s29:A.tmps[29]?.getD undef = .pointer (some ⟨gR,0,none⟩):=he 3 (by decide) (by kernel_rfl);refine ⟨by kernel_rfl,?_⟩;have HC1:=Lib.hid (Jh.out W hW);go_simp
     refine HC1.out.mono ?_;rintro e w5 ⟨hk5,Ga⟩;cases Ji:gy ts (k+2) with
     | ok a k3 =>
      rw [show k+1+1=k+2 from rfl,Ji] at Ga;exact .inl ⟨_,Ga.1,⟨a,k3,Ji,rfl,Ga.2⟩,hk5⟩
     | bad j er =>
      rw [show k+1+1=k+2 from rfl,Ji] at Ga;exact .inr ⟨_,Ga,j,er,Ji,rfl,qJ.out.trans ((aa.of_below hW).trans hk5)⟩
    ·rintro c A W hdf ⟨j,er,h1,h2,h3⟩
     refine ⟨hdf,?_⟩;rw [HL.out,h1];subst h2;exact ⟨h3,rfl⟩
    ·intro xs W hW hv
     have x0:xs 0 = .pointer (some ⟨g0,2,none⟩):=hv 0 (by decide);have x4:=hv 4 (by decide);have x6:=hv 6 (by decide);obtain ⟨a,k3,h1,h2,h3⟩:=x4;obtain ⟨a',k3',h1',g,hg,hgR,hS⟩:=x6;obtain ⟨rfl,rfl⟩:a=a' /\ k3=k3':=by rw [h1] at h1';injection h1' with e1 e2;exact ⟨e1,e2⟩
     generalize hx6:xs 6=u6 at hg;have H1:=Lib.hid h1;have H3:=Lib.hid h3;have R9:=Lib.hid hS;have Ee:=Lib.hid hgR;clear h1 h1' h3 hS hgR h2 hv;subst hg
     have HD:=Lib.hid (show Done gR gp cap ts qx (fo ts true k) w (.returned (.pointer (some ⟨g,0,none⟩))) W by
      rw [HL.out,H1.out]
      exact ⟨qJ.out.trans hW,⟨_,rfl,by rw [(wm (e:=.of (aT ts k) a) rfl).1];exact ⟨g,.pointer none,.pointer none,rfl,R9.out,rfl,rfl⟩⟩,H3.out⟩)
     clear x0 hW HS rZ HR4 qJ Jh HL z0 z1 z2 z3 z4 lz;simp only [ae.gZ,hx6]
     go_wp2_with fail
     go_ret;exact HD.out
   ·have hn1:(4:Int)<=((tk ts k).num:Int):=by have:¬ (tk ts k).num<4:=hn;omega
    have HL:=Lib.hid (M7 HQ.out HC.out hn);have HP:=Lib.hid (fun W=>fw (tk ts k) 7 W);unfold pc at HP;clear hn;go_wp2_with fail
    refine (HP.out _).mono ?_;rintro e w3 ⟨rfl,hb⟩;have HB3:=Lib.hid hb;clear hb;go_wp2_with fail
    rw [HL.out];exact ⟨rfl,qJ.out.trans (aa.of_below HB3.out),rfl⟩
  ·have HL:=Lib.hid (Ff (ts:=ts) (ask:=true) HQ.out (fun _=>hc))
   have HR4:=Lib.hid (HR.out.below hb);have qJ:=Lib.hid (ve.out.trans (aa.of_below hb));have hs4:=HS.out.below hb HS.out.lt;obtain ⟨z0,z1,z2,z3,z4⟩:=ku hs4;have lz:=hs4.lt;clear hc hb hs4 HR HH;go_wp2_with fail
   go_ret;rw [HL.out];have ha:Below w4.heap.size w4 (w4.alloc (.cells (jG (jQ (.num (aT ts k)))) 159)):=(Below.refl _ _).alloc (Nat.le_refl _) _;exact ⟨qJ.out.trans (aa.of_below ha),pU (a:=.num (aT ts k)) rfl w4 _ rfl,HR4.out.below ha⟩
 ·rw [decide_eq_false hq] at HE
  have HL:=Lib.hid (M6 (ts:=ts) hq);clear hq;go_wp2_with fail
  refine HN.out.mono ?_;rintro e w1 ⟨rfl,hb⟩;have HB:=Lib.hid hb;clear hb;go_wp2_with fail
  refine (HG.out _ HB.out).mono ?_;rintro e w2 ⟨hk,hp⟩;have HK:=Lib.hid (show aa (fun x=>x=gR) w w2 from (aa.of_below HB.out).trans hk);clear hk;cases ho:jo ts k with
  | ok a k2 =>
   rw [ho] at hp HL;obtain ⟨hv,hr⟩:=hp;simp only [Bv] at hv
   subst hv;have HR:=Lib.hid hr;clear hr ho;go_wp2_with fail
   go_ret;rw [HL.out];have ha:Below w2.heap.size w2 (w2.alloc (.cells (jG (jQ (.loc a))) 159)):=(Below.refl _ _).alloc (Nat.le_refl _) _;exact ⟨HK.out.trans (aa.of_below ha),pU (a:=.loc a) rfl w2 _ rfl,HR.out.below ha⟩
  | bad j er =>
   rw [ho] at hp HL;simp only at hp
   subst hp;clear ho;go_wp2_with fail
   rw [HL.out];exact ⟨rfl,HK.out,rfl⟩
end
theorem si {n:Nat} {s:List UInt8} (h:mE n s≠0):s ≠ []:=by
 rintro rfl;refine h (wR fun i h1 h2=>?_);unfold sO;rw [decide_eq_false (p:=sign i=[]),Bool.and_false];obtain rfl | rfl | rfl | rfl | rfl | rfl | rfl | rfl | rfl | rfl | rfl | rfl | rfl | rfl:i=1 \/ i=2 \/ i=3 \/ i=4 \/ i=5 \/ i=6 \/ i=7 \/ i=8 \/ i=9 \/ i=10 \/ i=11 \/ i=12 \/ i=13 \/ i=14:=by omega
 all_goals decide
theorem Qq (n:Nat) (s:List UInt8):mE n s<15:=by
 unfold mE;cases h:List.find? (fun op=>decide (sides op=n) && decide (sign op=s)) [1,2,3,4,5,6,7,8,9,10,11,12,13,14] with
 | none=>simp
 | some a =>
  have:=List.mem_of_find?_eq_some h;simp at this ⊢
  omega
structure M9 (F:FuncId) (ask:Bool) (gR gp cap:Nat) (ts:List Lex.Tok):Prop where
 enters:Expr.Enters F
 leaf:∀ (k:Nat) (w:World),Rd w gR gp cap ts k->Calls Tryz.prog F #[.pointer (some ⟨gR,0,none⟩)] w (Done gR gp cap ts qx (fo ts ask k) w)
def kG (F:FuncId) (gR:Nat):Value:=.func (.func F) #[.pointer (some ⟨gR,0,none⟩)] #[]
section
variable {F : FuncId} {ask : Bool} {gR gp cap : Nat} {ts : List Lex.Tok}
def Jj (F:FuncId) (ask:Bool) (gR gp cap:Nat) (ts:List Lex.Tok) (k:Nat):Prop:=∀ (o:Nat) (out:Out Ex) (w:World),o<=12->Px ts ask (.part o) k out->Rd w gR gp cap ts k ->
 Calls Tryz.prog 120 #[.pointer (some ⟨gR,0,none⟩),kG F gR,.int .i64 (o:Nat)] w (Done gR gp cap ts qx out w)
def OpsC (F:FuncId) (ask:Bool) (gR gp cap:Nat) (ts:List Lex.Tok) (k:Nat):Prop:=∀ (o least:Nat) (out:Out Ex) (w:World),o<=12->1<=least->least<=5->Px ts ask (.ops o least) k out->Rd w gR gp cap ts k ->
 Calls Tryz.prog 82 #[.pointer (some ⟨gR,0,none⟩),kG F gR,.int .i64 (o:Nat),.int .i64 (least:Nat)] w (Done gR gp cap ts qx out w)
theorem Rd.stable {w w':World} {k:Nat} (h:Rd w gR gp cap ts k) (hk:aa (fun x=>x=gR) w w'):Stable 159 w w':=Stable.keeps hk fun b cs hs e=>h.box.differ (show Sits w b 159 cs from hs) (by decide) e.symm
theorem Jk {o k:Nat} {out:Out Ex} (h:Px ts ask (.part o) k out):(qw ts k=0/\aj ts k ≠ [40]/\out=fo ts ask k) \/ ((qw ts k≠0 \/ aj ts k=[40])/\o=12/\out = .bad k 4) \/
  (qw ts k≠0/\o≠12/\∃ o2,Px ts ask (.part (o+1)) (k+1) o2/\out=o2.map (.one (qw ts k))) \/ (qw ts k=0/\aj ts k=[40]/\o≠12/\∃ o2,Px ts ask (.ops (o+1) 1) (k+1) o2/\out=o2.close ts):=by
 cases h with
 | leaf h1 h2=>exact .inl ⟨h1,h2,rfl⟩
 | deep h1 h2=>exact .inr (.inl ⟨h1,h2,rfl⟩)
 | sign h1 h2 h3=>exact .inr (.inr (.inl ⟨h1,h2,_,h3,rfl⟩))
 | paren h1 h2 h3 h4=>exact .inr (.inr (.inr ⟨h1,h2,h3,_,h4,rfl⟩))
theorem Na (L:M9 F ask gR gp cap ts) (k:Nat) (IP:Jj F ask gR gp cap ts (k+1)) (IO:OpsC F ask gR gp cap ts (k+1)):Jj F ask gR gp cap ts k:=by
 intro o out w ho hx h;have en:=L.enters;unfold Expr.Enters at en;have HN:=Lib.hid (je h);have Ar:=Lib.hid (show gR<w.heap.size from h.box.lt);have HL:=Lib.hid (fun W hr=>L.leaf k W hr);have LW:=Lib.hid IP;have Nb:=Lib.hid IO;have HRW:=Lib.hid h;have HX:=Lib.hid hx;have HM:=Lib.hid (h.more);have ho1:(o:Int)<=12:=by omega
 have ho0:(0:Int)<=(o:Int):=by omega
 have VX:=Lib.hid (show ((o:Nat):Int)+1=((o+1:Nat):Int) by omega);clear h hx IP IO L;unfold kG;go_enter Tryz.func120,Tryz.ntmps120;go_wp2_with fail
 refine HN.out.mono ?_;rintro e w1 ⟨rfl,hb⟩;have hz:=Sits.new w1 99 ay;have HZ:=Lib.hid hz;have hkk:=bK (w1.alloc (.cells ay 99)) w1.heap.size (pc (tk ts k));have hs:Sits ((w1.alloc (.cells ay 99)).setRow w1.heap.size (pc (tk ts k))) w1.heap.size 99 (pc (tk ts k)):=setRow_heap _ _ _ _ _ _ hz;have xN:Below w1.heap.size w1 ((w1.alloc (.cells ay 99)).setRow w1.heap.size (pc (tk ts k))):=behind ((Below.refl _ _).alloc (Nat.le_refl _) _) hkk (by simp) (fun x e=>by rw [e];exact Nat.le_refl _);have hlow:=hb.trans (xN.mono hb.size);have fH:=Lib.hid (show gR≠w1.heap.size by have:=hb.size;have:=Ar.out;omega);clear hz hkk xN hb;go_upto_region 2 with (refine wpList_store_row rfl 99 _ _ rfl w1.heap.size (pc (tk ts k)) rfl rfl 99 ay HZ.out jq rfl (jr _) ?_)
 change Code.wp _ _ _ _ ((w1.alloc (.cells ay 99)).setRow w1.heap.size (pc (tk ts k)));generalize (w1.alloc (.cells ay 99)).setRow w1.heap.size (pc (tk ts k))=W3 at hs hlow ⊢;generalize w1.heap.size=g0 at hs fH ⊢;have HS:=Lib.hid hs;have lQ:=Lib.hid hlow;have HR:=Lib.hid (HRW.out.below hlow);have HO:=Lib.hid (tL (tk ts k) 1 W3 HR.out.all.1);obtain ⟨z0,z1,z2,z3,z4⟩:=ku hs;have lz:=hs.lt;unfold pc at HO;clear hs hlow HZ HN;have nC:=Lib.hid (z1);go_wp2_with fail
 refine HO.out.mono ?_;rintro e w4 ⟨rfl,hb⟩;have HR4:=Lib.hid (HR.out.below hb);have sZ:=Lib.hid (lQ.out.trans (hb.mono lQ.out.size));have rZ:=Lib.hid (HS.out.below hb HS.out.lt);have HT:=Lib.hid (fun W (hb:Below w4.heap.size w4 W)=>mG (HR4.out.below hb));have HP:=Lib.hid (fun W=>fw (tk ts k) 4 W);have HE:=str_eq (aj ts k) [40];rw [show (str [40]).toList=[40] by simp [str]] at HE;unfold pc at HP;clear hb z0 z1 z2 z3 z4 lz nC HO HS HR lQ;obtain ⟨z0,z1,z2,z3,z4⟩:=ku rZ.out;have lz:=rZ.out.lt;change w4.cell? ⟨g0,1,none⟩=some (.string (str (aj ts k))) at z1;have Bz:Hid (str (tk ts k).text=str (aj ts k)):=Lib.hid rfl;rw [Bz.out] at HP;generalize str (aj ts k)=x at z1 HE HP;have hpz:mE 1 (tk ts k).text=qw ts k:=rfl;have HPL:=Lib.hid (show qw ts k<15 from Qq 1 (aj ts k));rw [hpz];clear hpz;rcases Jk HX.out with ⟨h0,ht,rfl⟩ | ⟨h0,rfl,rfl⟩ | ⟨h0,hd,o2,h2,rfl⟩ | ⟨h0,ht,hd,o2,h2,rfl⟩
 ·rw [decide_eq_false ht] at HE
  have e0:((qw ts k:Int) == 0)=true:=by rw [h0];rfl
  generalize qw ts k=p at e0;clear h0 ht;go_wp2_with fail
  refine (HL.out _ HR4.out).mono ?_;rintro e w5 ⟨hk,hp⟩;have HD:=Lib.hid (show Done gR gp cap ts qx (fo ts ask k) w e w5 from ⟨(aa.of_below sZ.out).trans hk,hp⟩);cases ho:fo ts ask k with
  | ok a k2 =>
   rw [ho] at hp;obtain ⟨⟨p,rfl,hv⟩,hr⟩:=hp;clear hv hr ho hk;go_wp2_with fail
   go_ret;exact HD.out
  | bad j er =>
   rw [ho] at hp HD;simp only at hp
   subst hp;clear ho hk;go_wp2_with fail
   exact ⟨rfl,HD.out⟩
 ·have tail:∀ (b:Bool),True:=fun _=>trivial
  clear tail;have VY:((12:Nat):Int)=12:=rfl;by_cases h1:qw ts k=0
  ·rw [decide_eq_true (h0.resolve_left (fun h=>h h1))] at HE
   have e0:((qw ts k:Int) == 0)=true:=by rw [h1];rfl
   generalize qw ts k=p at e0;clear h0 h1;go_wp2_with fail
   refine (HP.out _).mono ?_;rintro e w5 ⟨rfl,hb⟩;have Gc:=Lib.hid (sZ.out.trans (hb.mono sZ.out.size));clear hb;go_wp2_with fail
   exact ⟨rfl,aa.of_below Gc.out,rfl⟩
  ·have e0:((qw ts k:Int) == 0)=false:=beq_eq_false_iff_ne.2 (by omega)
   generalize qw ts k=p at e0;clear h0 h1;go_wp2_with fail
   refine (HP.out _).mono ?_;rintro e w5 ⟨rfl,hb⟩;have Gc:=Lib.hid (sZ.out.trans (hb.mono sZ.out.size));clear hb;go_wp2_with fail
   exact ⟨rfl,aa.of_below Gc.out,rfl⟩
 ·have e0:((qw ts k:Int) == 0)=false:=beq_eq_false_iff_ne.2 (by omega)
  have e1:((qw ts k:Int) != 0)=true:=by rw [bne,e0];rfl
  have VY:((o:Int) == 12)=false:=beq_eq_false_iff_ne.2 (by omega);have Qr:=Lib.hid (HT.out w4 (Below.refl _ _));have hi:=fun W hr=>LW.out (o+1) o2 W (by omega) h2 hr
  simp only [kG,<- VX.out] at hi
  have HI:=Lib.hid hi;clear hi;have HK:=Lib.hid (HM.out (si h0));generalize hp:qw ts k=p at *;clear h0 hd h2;go_wp2_with fail
  refine Qr.out.mono ?_;rintro e w5 ⟨rfl,hk,hr⟩;have qE:=Lib.hid (hr HK.out);have C9:=Lib.hid ((aa.of_below sZ.out).trans hk);clear hk hr z0 z1 z2 z3 z4 lz Qr;go_wp2_with fail
  refine (HI.out _ qE.out).mono ?_;rintro e w6 ⟨hk,hp⟩;have Kv:=Lib.hid (C9.out.trans hk);clear hk;cases o2 with
  | ok a k2 =>
   obtain ⟨⟨pt,rfl,hv⟩,hr⟩:=hp;have ha:Below w6.heap.size w6 (w6.alloc (.cells (aM ⟨4,p,0,0,0,0⟩ (.pointer pt) (.pointer none)) 159)):=(Below.refl _ _).alloc (Nat.le_refl _) _
   have HD:=Lib.hid (show Done gR gp cap ts qx (Out.map (.one p) (.ok a k2)) w (.returned (.pointer (some ⟨w6.heap.size,0,none⟩))) (w6.alloc (.cells (aM ⟨4,p,0,0,0,0⟩ (.pointer pt) (.pointer none)) 159)) from
    ⟨Kv.out.trans (aa.of_below ha),⟨_,rfl,w6.heap.size,.pointer pt,.pointer none,rfl,Sits.new _ _ _,hv.below ha,rfl⟩,hr.below ha⟩)
   clear hv hr ha;go_wp2_with fail
   go_ret;exact HD.out
  | bad j er =>
   simp only at hp
   subst hp;go_wp2_with fail
   exact ⟨rfl,Kv.out,rfl⟩
 ·have e0:((qw ts k:Int) == 0)=true:=by rw [h0];rfl
  have e1:((qw ts k:Int) != 0)=false:=by rw [bne,e0];rfl
  rw [decide_eq_true ht] at HE;have VY:((o:Int) == 12)=false:=beq_eq_false_iff_ne.2 (by omega);have Qr:=Lib.hid (HT.out w4 (Below.refl _ _));have hi:=fun W hr=>Nb.out (o+1) 1 o2 W (by omega) (by omega) (by omega) h2 hr
  simp only [kG,<- VX.out] at hi
  have HI:=Lib.hid hi;clear hi;have HK:=Lib.hid (HM.out (by rw [ht];simp));have HST:=Lib.hid (fun W=>(show Calls _ _ #[.int .u8 (1:Int)] W fun e w'=>e = .returned (.int .i64 (1:Int))/\W=w' from jR 1 W));have wy:=Lib.hid (fun k2 W (hr:Rd W gR gp cap ts k2)=>fA hr [41] (by simp));generalize hp:qw ts k=p at *;clear h0 ht hd h2;go_wp2_with fail
  refine Qr.out.mono ?_;rintro e w5 ⟨rfl,hk,hr⟩;have qE:=Lib.hid (hr HK.out);have C9:=Lib.hid ((aa.of_below sZ.out).trans hk);clear hk hr z0 z1 z2 z3 z4 lz Qr;go_wp2_with fail
  refine (HST.out _).mono ?_;rintro e w6 ⟨rfl,rfl⟩;go_wp2_with fail
  refine (HI.out _ qE.out).mono ?_;rintro e w6 ⟨hk,hp⟩;have Kv:=Lib.hid (C9.out.trans hk);clear hk;cases o2 with
  | ok a k2 =>
   obtain ⟨⟨pt,rfl,hv⟩,hr⟩:=hp;have R9:=Lib.hid (wy.out k2 w6 hr);have HV:=Lib.hid hv;have HRK:=Lib.hid hr;clear hv hr;go_wp2_with fail
   refine R9.out.mono ?_;rintro e w7 ⟨hk,hp⟩;have LX:=Lib.hid (Kv.out.trans hk);have Zk:=Lib.hid (HV.out.stable (HRK.out.stable hk));clear hk;cases hc:ak ts [41] k2 with
   | ok u k3 =>
    rw [hc] at hp;obtain ⟨hu,hr⟩:=hp;simp only [mH] at hu
    subst hu
    have HD:=Lib.hid (show Done gR gp cap ts qx (Out.close ts (.ok a k2)) w (.returned (.pointer pt)) w7 by
     unfold Out.close Out.bind;simp only [hc]
     exact ⟨LX.out,⟨_,rfl,Zk.out⟩,hr⟩)
    clear hc hr;go_wp2_with fail
    go_ret;exact HD.out
   | bad j er =>
    rw [hc] at hp;simp only at hp
    subst hp
    have HD:=Lib.hid (show Done gR gp cap ts qx (Out.close ts (.ok a k2)) w (.panicked (GM (tk ts j) er)) w7 by
     unfold Out.close Out.bind;simp only [hc]
     exact ⟨LX.out,rfl⟩)
    clear hc;go_wp2_with fail
    exact ⟨rfl,HD.out⟩
  | bad j er =>
   simp only at hp
   subst hp;go_wp2_with fail
   exact ⟨rfl,Kv.out,rfl⟩
theorem map_ok {α β:Type} {f:α->β} {o:Out α} {b:β} {k:Nat} (h:o.map f = .ok b k):∃ a,o = .ok a k/\b=f a:=by
 cases o with
 | ok a k'=>injection h with h1 h2;subst h2;exact ⟨a,rfl,h1.symm⟩
 | bad j e=>cases h
theorem vg {α:Type} {f:List UInt8->Option α} {a:α} {k k1:Nat} (h:jF ts f k = .ok a k1):k1=k+1:=by
 unfold jF at h
 split at h
 ·split at h
  ·injection h with _ h;exact h.symm
  ·cases h
 ·cases h
theorem xO {e:Ex} {k k1:Nat} (h:fo ts ask k = .ok e k1):k<k1:=by
 unfold fo at h
 split at h
 ·split at h
  ·split at h
   ·split at h
    ·obtain ⟨a,h,_⟩:=map_ok h
     have:=vg h;omega
    ·cases h
   ·injection h with _ h;omega
  ·obtain ⟨a,h,_⟩:=map_ok h
   have:=vg h;omega
 ·split at h
  ·injection h with _ h;omega
  ·obtain ⟨a,h,_⟩:=map_ok h
   have:=vg h;omega
theorem vk {o:Out Ex} {e:Ex} {k:Nat} (h:o.close ts = .ok e k):∃ k0,o = .ok e k0/\k=k0+1:=by
 cases o with
 | ok a k' =>
  have h:(ak ts [41] k').map (fun _=>a) = .ok e k:=h;obtain ⟨u,h,rfl⟩:=map_ok h;unfold ak at h
  split at h
  ·injection h with _ h;exact ⟨k',rfl,h.symm⟩
  ·cases h
 | bad j er=>cases h
def Gl.low:Gl->Nat->Nat->Prop
 | .loop _ _ _,k,k1=>k<=k1
 | _,k,k1=>k<k1
theorem Px.grows {g:Gl} {k:Nat} {out:Out Ex} (h:Px ts ask g k out):∀ e k1,out = .ok e k1->g.low k k1:=by
 induction h with
 | leaf _ _=>intro e k1 h;exact xO h
 | deep _ _=>intro e k1 h;cases h
 | sign _ _ _ ih =>
  intro e k1 h;obtain ⟨a,h,_⟩:=map_ok h;have:=ih _ _ h;simp only [Gl.low] at this ⊢;omega
 | paren _ _ _ _ ih =>
  intro e k1 h;obtain ⟨k0,h2,h3⟩:=vk h;have:=ih _ _ h2;simp only [Gl.low] at this ⊢;omega
 | first _ _ ih1 ih2 =>
  intro e k1 h;have h1:=ih1 _ _ rfl;have h2:=ih2 _ _ h;simp only [Gl.low] at h1 h2 ⊢;omega
 | jU _ _=>intro e k1 h;cases h
 | stop _=>intro e k1 h;injection h with _ h;simp only [Gl.low];omega
 | go _ _ _ ih1 ih2 =>
  intro e k1 h;have h1:=ih1 _ _ rfl;have h2:=ih2 _ _ h;simp only [Gl.low] at h1 h2 ⊢;omega
 | oO _ _ _=>intro e k1 h;cases h
theorem Da {o least k:Nat} {e:Ex} {out:Out Ex} (h:Px ts ask (.loop o least e) k out):(ai (iH ts k)<least/\out = .ok e k) \/
  (least<=ai (iH ts k)/\∃ r k2,Px ts ask (.ops o (ai (iH ts k)+1)) (k+1) (.ok r k2)/\Px ts ask (.loop o least (.two (iH ts k) e r)) k2 out) \/
  (least<=ai (iH ts k)/\∃ j er,Px ts ask (.ops o (ai (iH ts k)+1)) (k+1) (.bad j er)/\out = .bad j er):=by
 cases h with
 | stop h1=>exact .inl ⟨h1,rfl⟩
 | go h1 h2 h3=>exact .inr (.inl ⟨h1,_,_,h2,h3⟩)
 | oO h1 h2=>exact .inr (.inr ⟨h1,_,_,h2,rfl⟩)
theorem Db {o least k:Nat} {out:Out Ex} (h:Px ts ask (.ops o least) k out):(∃ e k1,Px ts ask (.part o) k (.ok e k1)/\Px ts ask (.loop o least e) k1 out) \/ ∃ j er,Px ts ask (.part o) k (.bad j er)/\out = .bad j er:=by
 cases h with
 | first h1 h2=>exact .inl ⟨_,_,h1,h2⟩
 | jU h1=>exact .inr ⟨_,_,h1,rfl⟩
theorem Fg (op:Nat):ai op<=4:=by unfold ai;(repeat' split) <;> omega
theorem jV {op:Nat} (h:0<ai op):op≠0:=by rintro rfl;exact absurd h (by decide)
theorem Qs (k:Nat) (IP:Jj F ask gR gp cap ts k) (IO:∀ k',k<k' -> OpsC F ask gR gp cap ts k'):OpsC F ask gR gp cap ts k:=by
 intro o least out w ho hl1 hl5 hx h;have HX:=Lib.hid hx;have Zl:=fun out hx=>IP o out w ho hx h
 have Qt:=fun k' (hk:k<k') least out W hl0 hl hx hr=>IO k' hk o least out W ho hl0 hl hx hr
 simp only [kG] at Zl Qt
 have LW:=Lib.hid Zl;have Nb:=Lib.hid Qt;have ho1:(o:Int)<=12:=by omega
 have ho0:(0:Int)<=(o:Int):=by omega
 clear h hx IP IO Zl Qt;unfold kG;go_enter Tryz.func82,Tryz.ntmps82;go_wp2_with fail
 rcases Db HX.out with ⟨e1,k1,hp1,hl⟩ | ⟨j,er,hp1,rfl⟩
 ·have HL:=Lib.hid hl
  have rz:=Lib.hid (show k<k1 from hp1.grows _ _ rfl);refine (LW.out _ hp1).mono ?_;rintro e w1 ⟨hk,⟨pt,rfl,hv⟩,hr⟩;have Qm:=Lib.hid hk;have HV:=Lib.hid hv;have HR:=Lib.hid hr;clear hk hv hr hp1 hl;go_wp2_with fail
  go_loopg [9] (ts.length - k1) (fun gg v9 wx=>∃ (e:Ex) (k2:Nat) (pt:Option Addr),gg=ts.length - k2/\v9 = .pointer pt/\Hid (Tree wx (bA e) (.pointer pt))/\Hid (Rd wx gR gp cap ts k2)/\Hid (aa (fun x=>x=gR) w wx)/\Hid (Px ts ask (.loop o least e) k2 out)/\Hid (k<k2))
  case atStart=>exact ⟨e1,k1,pt,rfl,rfl,HV,HR,Qm,HL,rz⟩
  case round =>
   obtain ⟨e,k2,pt,rfl,rfl,HV,HR,Qm,HL,AP⟩:=hrel;have HN:=Lib.hid (je HR.out);have HO:=Lib.hid (fun W (hb:Below wr.heap.size wr W)=>tL (tk ts k2) 2 W (HR.out.below hb).all.1);have HST:=Lib.hid (fun W=>jR (iH ts k2) W);have HT:=Lib.hid (fun W (hb:Below wr.heap.size wr W)=>mG (HR.out.below hb));change Hid (∀ W,_->Calls _ _ _ _ fun e w'=>Made (.returned (.int .u8 (iH ts k2:Nat))) W e w') at HO;have HM:=Lib.hid (fun (h:iH ts k2≠0)=>HR.out.more (si h));have LY:=Lib.hid (Fg (iH ts k2));have Qu:=Lib.hid (fun h=>jV (op:=iH ts k2) h);rcases Da HL.out with ⟨hlt,rfl⟩ | ⟨hge,r,k3,h2,h3⟩ | ⟨hge,j,er,h2,rfl⟩
   ·have m1:((ai (iH ts k2):Nat):Int)<(least:Int):=by omega
    generalize ai (iH ts k2)=s at m1 HST;generalize iH ts k2=p at HO HST;clear hlt;go_wp2_with fail
    refine HN.out.mono ?_;rintro e2 w2 ⟨rfl,hb⟩;have HB:=Lib.hid hb;clear hb;go_wp2_with fail
    refine (HO.out _ HB.out).mono ?_;rintro e2 w3 ⟨rfl,hb⟩;have HB3:=Lib.hid (HB.out.trans (hb.mono HB.out.size));clear hb;go_wp2_with fail
    refine (HST.out _).mono ?_;rintro e2 w4 ⟨rfl,rfl⟩;go_wp2_with fail
    go_ret;exact ⟨Qm.out.trans (aa.of_below HB3.out),⟨_,rfl,HV.out.below HB3.out⟩,HR.out.below HB3.out⟩
   ·have m1:¬ ((ai (iH ts k2):Nat):Int)<(least:Int):=by omega
    have m2:((ai (iH ts k2):Nat):Int)<=4:=by have:=LY.out;omega
    have m3:(0:Int)<=((ai (iH ts k2):Nat):Int):=by omega
    have ve:=Lib.hid (show k2+1<k3 from h2.grows _ _ rfl);have hi:=fun W hr=>Nb.out (k2+1) (by have:=AP.out;omega) (ai (iH ts k2)+1) (.ok r k3) W (by omega) (by have:=LY.out;omega) h2 hr
    have hs1:((ai (iH ts k2)+1:Nat):Int)=(ai (iH ts k2):Int)+1:=by omega
    simp only [hs1] at hi
    have HI:=Lib.hid hi;have rz:=Lib.hid (HM.out (Qu.out (by omega)));have BA:=Lib.hid h3;clear hi hs1 h2 h3 hge LY Qu HM Nb;generalize hs:ai (iH ts k2)=s at m1 m2 m3 HST HI;generalize hp:iH ts k2=p at HO HST BA;clear hs hp;go_wp2_with fail
    refine HN.out.mono ?_;rintro e2 w2 ⟨rfl,hb⟩;have HB:=Lib.hid hb;clear hb;go_wp2_with fail
    refine (HO.out _ HB.out).mono ?_;rintro e2 w3 ⟨rfl,hb⟩;have HB3:=Lib.hid (HB.out.trans (hb.mono HB.out.size));clear hb;go_wp2_with fail
    refine (HST.out _).mono ?_;rintro e2 w4 ⟨rfl,rfl⟩;go_wp2_with fail
    refine (HT.out _ HB3.out).mono ?_;rintro e2 w5 ⟨rfl,hk,hr⟩;have qE:=Lib.hid (hr rz.out);have HV5:=Lib.hid ((HV.out.below HB3.out).stable ((HR.out.below HB3.out).stable hk));have TH:=Lib.hid ((Qm.out.trans (aa.of_below HB3.out)).trans hk);clear hk hr;go_wp2_with fail
    refine (HI.out _ qE.out).mono ?_;rintro e2 w6 ⟨hk,⟨pr,rfl,hv⟩,hr⟩;have HV6:=Lib.hid (HV5.out.stable (qE.out.stable hk));have TI:=Lib.hid (TH.out.trans hk);have ha:Below w6.heap.size w6 (w6.alloc (.cells (aM ⟨5,p,0,0,0,0⟩ (.pointer pt) (.pointer pr)) 159)):=(Below.refl _ _).alloc (Nat.le_refl _) _;have Zm:=Lib.hid (TI.out.trans (aa.of_below ha));have TJ:=Lib.hid (hr.below ha);have Zk:=Lib.hid (show Tree (w6.alloc (.cells (aM ⟨5,p,0,0,0,0⟩ (.pointer pt) (.pointer pr)) 159)) (bA (.two p e r)) (.pointer (some ⟨w6.heap.size,0,none⟩)) from ⟨w6.heap.size,.pointer pt,.pointer pr,rfl,Sits.new _ _ _,HV6.out.below ha,hv.below ha⟩);have LX:=Lib.hid (show k<k3 by have:=AP.out;have:=ve.out;omega);have sP:=Lib.hid hr.lt;clear hk hv hr ha;go_wp2_with fail
    go_roundg (ts.length - k3)
    case measure=>have:=ve.out;have:=sP.out;omega
    case rel=>exact ⟨.two p e r,k3,_,rfl,rfl,Zk,TJ,Zm,BA,LX⟩
   ·have m1:¬ ((ai (iH ts k2):Nat):Int)<(least:Int):=by omega
    have m2:((ai (iH ts k2):Nat):Int)<=4:=by have:=LY.out;omega
    have m3:(0:Int)<=((ai (iH ts k2):Nat):Int):=by omega
    have hi:=fun W hr=>Nb.out (k2+1) (by have:=AP.out;omega) (ai (iH ts k2)+1) (.bad j er) W (by omega) (by have:=LY.out;omega) h2 hr
    have hs1:((ai (iH ts k2)+1:Nat):Int)=(ai (iH ts k2):Int)+1:=by omega
    simp only [hs1] at hi
    have HI:=Lib.hid hi;have rz:=Lib.hid (HM.out (Qu.out (by omega)));clear hi hs1 h2 hge LY Qu HM Nb;generalize hs:ai (iH ts k2)=s at m1 m2 m3 HST HI;generalize hp:iH ts k2=p at HO HST;clear hs hp;go_wp2_with fail
    refine HN.out.mono ?_;rintro e2 w2 ⟨rfl,hb⟩;have HB:=Lib.hid hb;clear hb;go_wp2_with fail
    refine (HO.out _ HB.out).mono ?_;rintro e2 w3 ⟨rfl,hb⟩;have HB3:=Lib.hid (HB.out.trans (hb.mono HB.out.size));clear hb;go_wp2_with fail
    refine (HST.out _).mono ?_;rintro e2 w4 ⟨rfl,rfl⟩;go_wp2_with fail
    refine (HT.out _ HB3.out).mono ?_;rintro e2 w5 ⟨rfl,hk,hr⟩;have qE:=Lib.hid (hr rz.out);have TH:=Lib.hid ((Qm.out.trans (aa.of_below HB3.out)).trans hk);clear hk hr;go_wp2_with fail
    refine (HI.out _ qE.out).mono ?_;rintro e2 w6 ⟨hk,rfl⟩;have TI:=Lib.hid (TH.out.trans hk);clear hk;go_wp2_with fail
    exact ⟨rfl,TI.out,rfl⟩
 ·refine (LW.out _ hp1).mono ?_
  rintro e w1 ⟨hk,rfl⟩;have Qm:=Lib.hid hk;clear hk hp1;go_wp2_with fail
  exact ⟨rfl,Qm.out,rfl⟩
end
end Go.Proofs.YtaanhmndeobgbaaGreatDoor.fT
