/- Part 11 of the proof: what is used of the texts StmS, StmA, StmB, StmC, StmF, StmN. -/
import Derived.Test.YtaanhmndeobgbaaGreatDoorGA4
import Derived.Test.YtaanhmndeobgbaaGreatDoorGA2
import Derived.Test.YtaanhmndeobgbaaGreatDoorGA0
import Derived.Lib.FrozenHead2
import Derived.Lib.OthersKept
import Derived.Laws.Entries
import Derived.Test.YtaanhmndeobgbaaGreatDoorGA9
import Derived.Lib.Join
import Derived.Lib.Repeat
set_option maxRecDepth 100000
set_option maxHeartbeats 1000000
namespace Go.Proofs.YtaanhmndeobgbaaGreatDoor.Prog
open Go.Proofs.YtaanhmndeobgbaaGreatDoor.Expr
structure Mk where
 kind:Nat
 reg:Nat
 mode:Nat
 loc:Nat
 a:Option Ex
 b:Option Ex
deriving DecidableEq
inductive az
 | nil
 | cons (m:Mk) (t e r:az)
deriving DecidableEq
def az.len:az->Nat
 | .nil=>0
 | .cons _ _ _ r=>r.len+1
def az.size:az->Nat
 | .nil=>0
 | .cons _ t e r=>t.size+e.size+r.size+1
def az.snoc:az->Mk->az->az->az
 | .nil,m,t,e => .cons m t e .nil
 | .cons m' t' e' r,m,t,e => .cons m' t' e' (r.snoc m t e)
def az.app:az->az->az
 | .nil,b=>b
 | .cons m t e r,b => .cons m t e (r.app b)
theorem az.uT (b:az):b.app .nil=b:=by
 induction b with
 | nil=>rfl
 | cons m t e r _ _ ih=>simp only [az.app,ih]
theorem az.kR (p:az) (m:Mk) (t e r:az):(p.snoc m t e).app r=p.app (.cons m t e r):=by
 induction p with
 | nil=>rfl
 | cons m' t' e' r' _ _ ih=>simp only [az.snoc,az.app,ih]
theorem az.iG (p:az) (m:Mk) (t e:az):(p.snoc m t e).len=p.len+1:=by
 induction p with
 | nil=>rfl
 | cons m' t' e' r' _ _ ih=>simp only [az.snoc,az.len,ih]
theorem az.nG (p b:az):(p.app b).len=p.len+b.len:=by
 induction p with
 | nil=>simp [az.app,az.len]
 | cons m' t' e' r' _ _ ih=>simp only [az.app,az.len,ih];omega
theorem az.yT {b:az} (h:b.len=0):b = .nil:=by
 cases b with
 | nil=>rfl
 | cons _ _ _ _=>simp [az.len] at h
theorem az.qV (b:az):b.len<=b.size:=by
 induction b with
 | nil=>exact Nat.le_refl _
 | cons m t e r _ _ ih=>simp only [az.len,az.size];omega
def az.deep:az->Nat
 | .nil=>1
 | .cons m t e r=>max (if m.kind=8 then max (t.deep+1) (e.deep+1) else if m.kind=9 then t.deep+1 else 1) r.deep
theorem az.qW (b:az):1<=b.deep:=by
 induction b with
 | nil=>exact Nat.le_refl _
 | cons m t e r _ _ ih=>simp only [az.deep];omega
def az.over:az->Nat->Bool
 | .nil,_=>false
 | .cons _ _ _ _,0=>true
 | .cons _ t e r,room+1=>t.over room || e.over room || r.over (room+1)
def kr:Option Ex->Tr
 | none => .nil
 | some e=>bA e
def okO:Option Ex->Prop
 | none=>True
 | some e=>e.ok/\e.depth<=12
theorem Qb {a b:Option Ex} (h:kr a=kr b):a=b:=by
 cases a with
 | none=>cases b with
  | none=>rfl
  | some e=>cases e <;> simp [kr,bA] at h
 | some e=>cases b with
  | none=>cases e <;> simp [kr,bA] at h
  | some f=>rw [Gv e f h]
def qC:Option Ex->List UInt8
 | none=>[]
 | some e=>e.text
def aH (m:Nat):List UInt8:=[[],[112,108,110],[114,108,120],[97,99,113],[114,101,108],[97,114],[115,99]].getD m []
def gI (m:Mk):List UInt8 :=
 match m.kind with
 | 1=>114 :: (dec m.reg ++ 32 :: 61 :: 32 :: (qC m.a ++ [59]))
 | 2=>114 :: (dec m.reg ++ 32 :: 61 :: 32 :: 108 :: 111 :: 97 :: 100 :: 40 :: m.loc.toUInt8 :: 44 :: 32 :: (aH m.mode ++ [41,59]))
 | 3=>115 :: 116 :: 111 :: 114 :: 101 :: 40 :: m.loc.toUInt8 :: 44 :: 32 :: (qC m.a ++ 44 :: 32 :: (aH m.mode ++ [41,59]))
 | 4=>114 :: (dec m.reg ++ 32 :: 61 :: 32 :: 115 :: 119 :: 97 :: 112 :: 40 :: m.loc.toUInt8 :: 44 :: 32 :: (qC m.a ++ 44 :: 32 :: (aH m.mode ++ [41,59])))
 | 5=>114 :: (dec m.reg ++ 32 :: 61 :: 32 :: 97 :: 100 :: 100 :: 40 :: m.loc.toUInt8 :: 44 :: 32 :: (qC m.a ++ 44 :: 32 :: (aH m.mode ++ [41,59])))
 | 6=>114 :: (dec m.reg ++ 32 :: 61 :: 32 :: 99 :: 97 :: 115 :: 40 :: m.loc.toUInt8 :: 44 :: 32 :: (qC m.a ++ 44 :: 32 :: (qC m.b ++ 44 :: 32 :: (aH m.mode ++ [41,59]))))
 | 7=>102 :: 101 :: 110 :: 99 :: 101 :: 40 :: (aH m.mode ++ [41,59])
 | 8=>105 :: 102 :: 32 :: 40 :: (qC m.a ++ [41,32,123])
 | 9=>119 :: 104 :: 105 :: 108 :: 101 :: 32 :: 40 :: (qC m.a ++ [41,32,123])
 | _=>[]
def indent (d:Nat):List UInt8:=List.replicate (2 * d) 32
def line (d:Nat) (s:List UInt8):List UInt8:=indent d ++ (s ++ [10])
def lN:List UInt8:=[125,32,101,108,115,101,32,123]
def az.text:az->Nat->List UInt8
 | .nil,_=>[]
 | .cons m t e r,d =>
  if 8<d then [] else
  (if m.kind=8 then line d (gI m) ++ (t.text (d+1) ++ ((if e.len=0 then [] else line d lN ++ e.text (d+1)) ++ line d [125]))
   else if m.kind=9 then line d (gI m) ++ (t.text (d+1) ++ line d [125])
   else if 1<=m.kind/\m.kind<=7 then line d (gI m) else []) ++ r.text d
structure Ts where
 init:List (Nat × Nat)
 threads:List az
 all:Bool
 ask:Option Ex
deriving DecidableEq
def iq (i:Nat × Nat):List UInt8:=105 :: 110 :: 105 :: 116 :: 32 :: i.1.toUInt8 :: 32 :: 61 :: 32 :: (dec i.2 ++ [59,10])
def gV (b:az):List UInt8:=[116,104,114,101,97,100,32,123,10] ++ (b.text 1 ++ [125,10])
def tJ (all:Bool):List UInt8:=if all then [102,111,114,97,108,108] else [101,120,105,115,116,115]
def Ts.text (t:Ts):List UInt8:=t.init.flatMap iq ++ (t.threads.flatMap gV ++ (tJ t.all ++ 32 :: (qC t.ask ++ [59,10])))
def fV (x:Nat):Prop:=97<=x/\x<=122
def Mk.proper (m:Mk):Prop :=
 okO m.a/\okO m.b /\
 match m.kind with
 | 1=>m.mode=0/\m.loc=0/\m.a.isSome/\m.b=none
 | 2=>(m.mode=1 \/ m.mode=2 \/ m.mode=3)/\fV m.loc/\m.a=none/\m.b=none
 | 3=>(m.mode=1 \/ m.mode=2 \/ m.mode=4)/\fV m.loc/\m.reg=0/\m.a.isSome/\m.b=none
 | 4=>(m.mode=2 \/ m.mode=3 \/ m.mode=4 \/ m.mode=5)/\fV m.loc/\m.a.isSome/\m.b=none
 | 5=>(m.mode=2 \/ m.mode=3 \/ m.mode=4 \/ m.mode=5)/\fV m.loc/\m.a.isSome/\m.b=none
 | 6=>(m.mode=2 \/ m.mode=3 \/ m.mode=4 \/ m.mode=5)/\fV m.loc/\m.a.isSome/\m.b.isSome
 | 7=>(m.mode=3 \/ m.mode=4 \/ m.mode=5 \/ m.mode=6)/\m.loc=0/\m.reg=0/\m.a=none/\m.b=none
 | 8=>m.mode=0/\m.loc=0/\m.reg=0/\m.a.isSome/\m.b=none
 | 9=>m.mode=0/\m.loc=0/\m.reg=0/\m.a.isSome/\m.b=none
 | _=>False
def az.proper:az->Prop
 | .nil=>True
 | .cons m t e r=>m.proper/\t.proper/\e.proper/\r.proper/\(m.kind≠8->e = .nil)/\(m.kind≠8->m.kind≠9->t = .nil)
def az.fine:az->Prop
 | .nil=>True
 | .cons m t e r=>okO m.a/\okO m.b/\m.reg<256/\m.mode<256/\m.loc<256/\m.kind<256/\t.fine/\e.fine/\r.fine
theorem kinds {m:Mk} (h:m.proper):m.kind=1 \/ m.kind=2 \/ m.kind=3 \/ m.kind=4 \/ m.kind=5 \/ m.kind=6 \/ m.kind=7 \/ m.kind=8 \/ m.kind=9:=by
 obtain ⟨k,r,mo,x,a,b⟩:=m;obtain ⟨_,_,h⟩:=h;simp only at h ⊢
 split at h <;> simp_all
def CU (m:Mk) (t e:az) (d:Nat):List UInt8 :=
 if m.kind=8 then t.text (d+1) ++ ((if e.len=0 then [] else line d lN ++ e.text (d+1)) ++ line d [125])
 else if m.kind=9 then t.text (d+1) ++ line d [125] else []
theorem Bn {m:Mk} (t e r:az) {d:Nat} (hd:d<=8) (hk:1<=m.kind/\m.kind<=9):(az.cons m t e r).text d=line d (gI m) ++ (CU m t e d ++ r.text d):=by
 simp only [az.text,CU]
 rw [if_neg (by omega)];by_cases h8:m.kind=8
 ·simp only [if_pos h8,List.append_assoc]
 ·by_cases h9:m.kind=9
  ·simp only [if_neg h8,if_pos h9,List.append_assoc]
  ·simp only [if_neg h8,if_neg h9]
   rw [if_pos (by omega)];simp
theorem ER {m:Mk} {t e r:az} (h:(az.cons m t e r).proper):m.proper/\t.proper/\e.proper/\r.proper/\(m.kind≠8->e = .nil)/\(m.kind≠8->m.kind≠9->t = .nil):=h
structure Ts.proper (t:Ts):Prop where
 init:∀ i ∈ t.init,fV i.1
 threads:∀ b ∈ t.threads,b.proper/\b.deep<=8
 some:t.ask.isSome=true
 ask:okO t.ask
end Go.Proofs.YtaanhmndeobgbaaGreatDoor.Prog
namespace Go.Proofs.YtaanhmndeobgbaaGreatDoor.Prog
open Go.RowKit Mem Go.Lib
abbrev tB:TypeId:=89
abbrev tU:TypeId:=5
theorem RZ:(Tryz.prog.info? tB).map (·.size)=some 2:=by kernel_rfl
theorem VH:liesAt Tryz.prog Tryz.prog.depth tB (2 / Tryz.prog.cellsOf tB) 0 tB 1=true:=by kernel_rfl
theorem R3:(Tryz.prog.info? tU).map (fun i=>(i.zero,i.size,i.bytes))=some (some (.int .u8 0),1,1):=by kernel_rfl
theorem ES (b:Nat) (w:World) (h0:w.cell? ⟨b,0,none⟩=some (.pointer none)) (hsh:w.shape? b=some (tB,2)) (hfz:w.frozen? ⟨b,0,none⟩=false) :
  Calls Tryz.prog 100 #[.pointer (some ⟨b,0,none⟩)] w fun e w'=>e = .returned (.tuple #[])/\w' = w.setCell ⟨b,0,none⟩ (.pointer (some ⟨b,0,none⟩)):=by
 obtain ⟨j,hj,hjs⟩:=Option.map_eq_some_iff.1 RZ;go_enter Tryz.func100,Tryz.ntmps100;go_wp2
 rw [Lib.run_to_unsafe w ⟨b,0,none⟩ Tryz.underlying86 Tryz.underlying204 hj (by rw [hjs];decide) hsh (Nat.zero_lt_succ 1)];simp only [Result.andThen]
 rw [Oper.upon_value];go_wp2
 rw [run_callFunc_extern Tryz.func134 (by kernel_rfl) (by kernel_rfl) (by kernel_rfl) (e:=Extern.AbiNoEscape.same) (by kernel_rfl)];rw [Lib.run_noEscape];simp only [Result.andThen]
 rw [Oper.upon_value];go_wp2
 rw [Lib.run_from_unsafe w ⟨b,0,none⟩ Tryz.underlying204 Tryz.underlying86 hj hsh VH];simp only [Result.andThen]
 rw [Oper.upon_value];go_wp2
 go_end0
 exact ⟨rfl,rfl⟩
theorem GH (b:Nat) (w:World) (h0:w.cell? ⟨b,0,none⟩=some (.pointer (some ⟨b,0,none⟩))) :
  Calls Tryz.prog 100 #[.pointer (some ⟨b,0,none⟩)] w fun e w'=>e = .returned (.tuple #[])/\w' = w:=by
 obtain ⟨j,hj,hjs⟩:=Option.map_eq_some_iff.1 RZ;have hne:=Lib.run_neq_ptr_same (P:=Tryz.prog) w ⟨b,0,none⟩ Tryz.underlying86 hj;go_enter Tryz.func100,Tryz.ntmps100;go_wp2
 go_end0
 exact ⟨rfl,rfl⟩
theorem Bo (B b:Nat) (bs:List Value) (w:World) (h:IsBuilderF tB tU B b bs w) :
  Calls Tryz.prog 100 #[.pointer (some ⟨b,0,none⟩)] w fun e w'=>e = .returned (.tuple #[])/\BuilderAtF tB tU B b (.pointer (some ⟨b,0,none⟩)) bs w' /\ Below B w w' /\ OthersKept tU (some b) w w' /\ w.heap.size<=w'.heap.size:=by
 rcases h with h | h
 ·refine (ES b w h.cell0 h.shape h.frozen0).mono ?_
  rintro e w' ⟨rfl,rfl⟩;exact ⟨rfl,h.used _,(Below.refl B w).setCell (p:=⟨b,0,none⟩) h.1 _,(OthersKept.refl _ _ w).setCell ⟨b,0,none⟩ rfl _,by simp [World.setCell]⟩
 ·refine (GH b w h.cell0).mono ?_
  rintro e w' ⟨rfl,rfl⟩;exact ⟨rfl,h,Below.refl B _,OthersKept.refl _ _ _,Nat.le_refl _⟩
structure Wrote (B b:Nat) (bs:List Value) (w w':World):Prop where
 is:BuilderAtF tB tU B b (.pointer (some ⟨b,0,none⟩)) bs w'
 low:Below B w w'
 kept:OthersKept tU (some b) w w'
 size:w.heap.size<=w'.heap.size
theorem ET (B b:Nat) (bs:List Value) (s:ByteArray) (w:World) (h:IsBuilderF tB tU B b bs w) (hlen:bs.length+s.size<=140737488355328) (hBw:B<=w.heap.size) :
  Calls Tryz.prog 68 #[.pointer (some ⟨b,0,none⟩),.string s] w fun e w'=>e = .returned (.tuple #[.int .i64 s.size,.nilIface])/\Wrote B b (bs ++ strCells s) w w':=by
 obtain ⟨i0,hi,hz0,hz1,hz2⟩:=info_parts R3;have HC:=hid (Bo B b bs w h);clear h;go_enter Tryz.func68,Tryz.ntmps68;go_wp2_with fail
 refine HC.out.mono ?_;rintro e w1 ⟨rfl,h1,hb1,hk1,hs1⟩;obtain ⟨hB,v,hbk,hown,hne⟩:=h1;have c0:w1.cell? ⟨b,0,none⟩=some (.pointer (some ⟨b,0,none⟩)):=by rw [cell_of_heap hbk];rfl
 have c1:w1.cell? ⟨b,1,none⟩=some v:=by rw [cell_of_heap hbk];rfl
 go_wp2_with (at_builtin;refine wpList_append_own_stringF _ rfl _ _ 87 9 rfl B 5 i0 Tryz.underlying87 Tryz.underlying9 hi hz0 hz1 hz2 _ _ _ rfl hown s rfl ?c3 ?c4 ?c5 ?_)
 case c3=>unfold maxLen;omega
 case c4=>omega
 case c5=>omega
 intro v' w2 hown' hgrow _;have hlt:b<w1.heap.size:=lt_of_block hbk;have hb2:w2.heap[b]? = some (.cells #[.pointer (some ⟨b,0,none⟩),v] tB (0,0)):=by
  rw [hgrow.block b hlt (fun e=>hne e.symm)];exact hbk
 have d0:w2.cell? ⟨b,0,none⟩=some (.pointer (some ⟨b,0,none⟩)):=by rw [cell_of_heap hb2];rfl
 have d1:w2.cell? ⟨b,1,none⟩=some v:=by rw [cell_of_heap hb2];rfl
 have f1:w2.frozen? ⟨b,1,none⟩=false:=frozen_of_heap hb2 1;obtain ⟨ao,n',cap,rfl⟩:∃ ao n' cap,v' = .slice ao n' cap:=by
  rcases hown'.2 with ⟨hv,_⟩ | ⟨g,cap,cur,fz,hv,_⟩
  ·exact ⟨_,_,_,hv⟩
  ·exact ⟨_,_,_,hv⟩
 go_wp2
 go_ret2;refine ⟨rfl,?_,?_,(hk1.grown hgrow (ownsRowF_kind hown)).setCell ⟨b,1,none⟩ rfl _,?_⟩
 ·exact BuilderAtF.put (T:=tB) (e:=tU) hB hb2 (bs':=bs ++ strCells s) (by simpa [strCells_length] using hown') (by decide)
 ·exact (hb1.grown hgrow (by omega) (fun k hk=>(hown.lt k hk).1)).setCell (p:=⟨b,1,none⟩) hB _
 ·have:=hgrow.size;simp [World.setCell];omega
theorem Kc (B b:Nat) (bs:List Value) (c:Int) (w:World) (h:IsBuilderF tB tU B b bs w) (hlen:bs.length+1<=140737488355328) (hBw:B<=w.heap.size) :
  Calls Tryz.prog 69 #[.pointer (some ⟨b,0,none⟩),.int .u8 c] w fun e w'=>e = .returned .nilIface/\Wrote B b (bs ++ [.int .u8 c]) w w':=by
 obtain ⟨i0,hi,hz0,hz1,hz2⟩:=info_parts R3;have HC:=hid (Bo B b bs w h);clear h;go_enter Tryz.func69,Tryz.ntmps69;go_wp2_with fail
 refine HC.out.mono ?_;rintro e w1 ⟨rfl,h1,hb1,hk1,hs1⟩;obtain ⟨hB,v,hbk,hown,hne⟩:=h1;have c0:w1.cell? ⟨b,0,none⟩=some (.pointer (some ⟨b,0,none⟩)):=by rw [cell_of_heap hbk];rfl
 have c1:w1.cell? ⟨b,1,none⟩=some v:=by rw [cell_of_heap hbk];rfl
 go_wp2_with (at_builtin;refine wpList_append_ownF _ rfl _ _ 87 rfl B 5 i0 (.int .u8 0) 1 1 Tryz.underlying87 hi hz0 hz1 hz2 rfl (by decide) _ _ _ rfl (hown.alloc _) ⟨w1.heap.size,0,none⟩ 1 1 [.int .u8 c] rfl rfl ?c1 ?c2 ?c3 ?c4 ?c5 ?_)
 case c1 =>
  intro j u hj
  match j,hj with
  | 0,hj=>simp at hj;subst hj;simp [Addr.add]
 case c2=>intro u hu;simp at hu;subst hu;rfl
 case c3=>unfold maxLen;omega
 case c4=>omega
 case c5=>simp;omega
 intro v' w2 hown' hgrow _;have hlt:b<w1.heap.size:=lt_of_block hbk;have hb2:w2.heap[b]? = some (.cells #[.pointer (some ⟨b,0,none⟩),v] tB (0,0)):=by
  rw [hgrow.block b (by simp;omega) (fun e=>hne e.symm),alloc_old w1 _ b hlt];exact hbk
 have d0:w2.cell? ⟨b,0,none⟩=some (.pointer (some ⟨b,0,none⟩)):=by rw [cell_of_heap hb2];rfl
 have d1:w2.cell? ⟨b,1,none⟩=some v:=by rw [cell_of_heap hb2];rfl
 have f1:w2.frozen? ⟨b,1,none⟩=false:=frozen_of_heap hb2 1;obtain ⟨g,cap,rfl⟩:∃ g cap,v' = .slice (some ⟨g,0,none⟩) (bs.length+1) cap:=by
  rcases hown'.2 with ⟨_,h0⟩ | ⟨g,cap,cur,fz,hv,_⟩
  ·omega
  ·exact ⟨g,cap,hv⟩
 go_wp2
 go_ret;refine ⟨rfl,?_,?_,((hk1.alloc _).grown hgrow (ownsRowF_kind (hown.alloc _))).setCell ⟨b,1,none⟩ rfl _,?_⟩
 ·exact BuilderAtF.put (T:=tB) (e:=tU) hB hb2 (bs':=bs ++ [.int .u8 c]) (by simpa using hown') (by decide)
 ·exact ((hb1.alloc (by omega) _).grown hgrow (by simp;omega) (fun k hk=>(hown.lt k hk).1)).setCell (p:=⟨b,1,none⟩) hB _
 ·have:=hgrow.size;simp [World.setCell] at this ⊢;omega
end Go.Proofs.YtaanhmndeobgbaaGreatDoor.Prog
namespace Go.Proofs.YtaanhmndeobgbaaGreatDoor.Prog
open Go.RowKit Mem Go.Proofs.YtaanhmndeobgbaaGreatDoor.Expr Go.Lib
def modes:List (List UInt8):=[[],[112,108,110],[114,108,120],[97,99,113],[114,101,108],[97,114],[115,99]]
def wz (w:World):Prop:=0<w.heap.size/\∀ i:Nat,i<7->w.cell? ⟨0,i,none⟩=some (.string (str (aH i)))
theorem wz.below {w w':World} (h:wz w) (hb:Below w.heap.size w w'):wz w' :=
 ⟨Nat.lt_of_lt_of_le h.1 hb.size,fun i hi=>(hb.cell (p:=⟨0,i,none⟩) h.1).trans (h.2 i hi)⟩
def All (w:World):Prop:=pE w/\wz w
theorem All.below {w w':World} (h:All w) (hb:Below w.heap.size w w'):All w':=⟨h.1.below hb,h.2.below hb⟩
theorem pK {m:Nat} (h:7<=m):aH m=[]:=by
 unfold aH;rw [List.getD_eq_getElem?_getD,List.getElem?_eq_none (by simp;omega)];rfl
theorem qX (m:Nat):(aH m).length<=3:=by
 by_cases h:7<=m
 ·rw [pK h];simp
 ·obtain rfl | rfl | rfl | rfl | rfl | rfl | rfl:m=0 \/ m=1 \/ m=2 \/ m=3 \/ m=4 \/ m=5 \/ m=6:=by omega
  all_goals decide
theorem yU (m:Nat) (hm:m<256) (w:World) (hT:wz w):Calls Tryz.prog 73 #[.int .u8 (m:Nat)] w fun e w'=>Made (.returned (.string (str (aH m)))) w e w':=by
 by_cases h:7<=m
 ·have i1:(7:Int)<=(m:Int):=by omega
  have HT:=hid (pK h);clear h hT;go_enter Tryz.func73,Tryz.ntmps73;go_wp2_with fail
  go_ret;exact ⟨by rw [HT.out];rfl,Below.refl _ _⟩
 ·have hcell:=hT.2 m (by omega)
  have i1:(m:Int)<7:=by omega
  generalize aH m=t at hcell ⊢;clear h hT;go_enter Tryz.func73,Tryz.ntmps73;go_wp2_with fail
  go_ret;exact ⟨rfl,Below.refl _ _⟩
theorem gG (x:Nat) (hx:x<256) (w:World):Calls Tryz.prog 28 #[.int .u8 (x:Nat)] w fun e w'=>Made (.returned (.string (str [x.toUInt8]))) w e w':=by
 have hcv:(convert 87 9 (.slice (some ⟨w.heap.size,0,none⟩) 1 1)).run Tryz.prog (w.alloc (.cells #[.int .u8 x] 5)) = .ok (.string (str [x.toUInt8])) (w.alloc (.cells #[.int .u8 x] 5)):=by
  refine run_convert_bytes_back (P:=Tryz.prog) (w.alloc (.cells #[.int .u8 x] 5)) 87 9 5 ⟨w.heap.size,0,none⟩ 1 [x.toUInt8] Tryz.underlying87 Tryz.underlying5 Tryz.underlying9 fun j hj=>?_
  obtain rfl:j=0:=by simpa using hj
  have e:((x.toUInt8.toNat:Nat):Int)=x:=by simp;omega
  show _=some (Value.int .u8 (x.toUInt8.toNat:Int))
  rw [e];exact (Sits.new w 5 #[.int .u8 x]).cell 0
 go_enter Tryz.func28,Tryz.ntmps28;go_wp2_with fail
 go_ret;exact ⟨rfl,(Below.refl _ _).alloc (Nat.le_refl _) _⟩
theorem Ke (n:Nat) (hn:n<1000000) (w:World) (hP:xD w):Calls Tryz.prog 105 #[.int .i64 (n:Nat)] w fun e w'=>Made (.returned (.string (str (dec n)))) w e w':=by
 refine (Tryz.strconv_Itoa (n:Int) (by omega) (by omega) w hP).mono ?_;rintro e w' ⟨rfl,k,os,rfl⟩;exact ⟨by unfold Lib.itoa;rw [if_neg (by omega)];rfl,below_grow _ _ (Nat.le_refl _) k os⟩
def eQ (m:Mk) (av bv tv ev:Value):List Value:=[.int .u8 m.kind,.int .u8 m.reg,.int .u8 m.mode,.int .u8 m.loc,av,bv,tv,ev]
def kZ (m:Mk) (av bv tv ev:Value):Value:=.agg #[.int .u8 m.kind,.int .u8 m.reg,.int .u8 m.mode,.int .u8 m.loc,av,bv,tv,ev]
theorem xJ (m:Mk) (hr:m.reg<256) (av bv tv ev:Value) (w:World) (hP:xD w):Calls Tryz.prog 71 #[kZ m av bv tv ev] w fun e w'=>Made (.returned (.string (str (114 :: dec m.reg)))) w e w':=by
 have HI:=hid (fun W (hb:Below w.heap.size w W)=>Ke m.reg (by omega) W (hP.below hb));have hl:=lJ m.reg (by omega);have h1:∀ W,(Op.stringOp .add ⟨#[114]⟩ (str (dec m.reg))).run Tryz.prog W = .ok (.string (str (114 :: dec m.reg))) W:=fun W=>ig [114] (dec m.reg) (by simp;omega) W
 obtain ⟨k,r,mo,x,a,b⟩:=m;simp only at HI hl h1
 have i1:(r:Int)<256:=by simp only at hr;omega
 unfold kZ;simp only
 clear hP hl hr;go_enter Tryz.func71,Tryz.ntmps71;go_wp2_with fail
 refine (HI.out _ ((Below.refl _ _).alloc (Nat.le_refl _) _)).mono ?_;rintro e w1 ⟨rfl,hb⟩;have HB:=hid (Below.boxed _ _ hb);clear hb;go_wp2_with fail
 go_ret;exact ⟨rfl,HB.out⟩
def words (ws:List (List UInt8)):Array Value:=(ws.map fun x=>Value.string (str x)).toArray
def Words (w:World) (v:Value) (ws:List (List UInt8)):Prop:=∃ g,v = .slice (some ⟨g,0,none⟩) ws.length ws.length/\Sits w g 9 (words ws)
theorem EU {ws:List (List UInt8)} {j:Nat} {x:List UInt8} (h:ws[j]? = some x):(words ws)[j]? = some (.string (str x)):=by
 simp [words,h]
def joined (ws:List (List UInt8)):List UInt8:=Lib.join ws [44,32]
theorem qY (x:List UInt8):(str x).data.toList=x:=by simp [str]
theorem Jc (ws:List (List UInt8)):(ws.map str).map (·.data.toList)=ws:=by
 rw [List.map_map]
 conv=>rhs;rw [<- List.map_id ws]
 exact List.map_congr_left fun x _=>qY x
theorem MQ (ws:List (List UInt8)) (v:Value) (w:World) (hv:Words w v ws) (hn:ws.length<=100) (hl:(joined ws).length<=1000000) :
  Calls Tryz.prog 106 #[v,.string (str [44,32])] w fun e w'=>Made (.returned (.string (str (joined ws)))) w e w':=by
 obtain ⟨g,rfl,hs⟩:=hv
 have h:=Tryz.strings_Join g 0 ws.length (ws.map str) (str [44,32]) w (fun j x hx=>by
  rw [List.getElem?_map] at hx;obtain ⟨y,hy,rfl⟩:=Option.map_eq_some_iff.1 hx
  rw [Nat.zero_add,hs.cell,EU hy]) hs.lt (by rw [List.length_map];omega) (by rw [List.length_map];omega) (by rw [Jc,qY];unfold joined at hl;omega)
 rw [List.length_map,Jc,qY] at h;exact h
def fB (name:List UInt8) (ws:List (List UInt8)):List UInt8:=name ++ [40] ++ joined ws ++ [41,59]
theorem EW (name:List UInt8) (hname:name.length<=100) (ws:List (List UInt8)) (v:Value) (w:World) (hv:Words w v ws) (hn:ws.length<=100) (hl:(joined ws).length<=1000000) :
  Calls Tryz.prog 72 #[.string (str name),v] w fun e w'=>Made (.returned (.string (str (fB name ws)))) w e w':=by
 have HJ:=hid (MQ ws v w hv hn hl);obtain ⟨g,rfl,hs⟩:=hv;have h1:∀ W,(Op.stringOp .add (str name) ⟨#[40]⟩).run Tryz.prog W = .ok (.string (str (name ++ [40]))) W:=fun W=>ig name [40] (by simp;omega) W
 have h2:∀ W,(Op.stringOp .add (str (name ++ [40])) (str (joined ws))).run Tryz.prog W = .ok (.string (str (name ++ [40] ++ joined ws))) W:=fun W=>ig _ _ (by simp;omega) W
 have h3:∀ W,(Op.stringOp .add (str (name ++ [40] ++ joined ws)) ⟨#[41,59]⟩).run Tryz.prog W = .ok (.string (str (fB name ws))) W:=fun W=>ig (name ++ [40] ++ joined ws) [41,59] (by simp;omega) W
 generalize fB name ws=cw at *;generalize name ++ [40] ++ joined ws=n2 at h2 h3;generalize name ++ [40]=n1 at h1 h2;generalize joined ws=jw at *;generalize ws.length=nw at *;clear hs hn;go_enter Tryz.func72,Tryz.ntmps72;go_wp2_with fail
 refine HJ.out.mono ?_;rintro e w1 ⟨rfl,hb⟩;have HB:=hid hb;clear hb;go_wp2_with fail
 go_ret;exact ⟨rfl,HB.out⟩
structure gP (b:Nat) (w w':World):Prop where
 kept:OthersKept tU (some b) w w'
 size:w.heap.size<=w'.heap.size
structure ug (w0:World) (b:Nat) (l:List UInt8) (w:World):Prop where
 is:IsBuilderF tB tU w0.heap.size b (byteCells l) w
 low:Below w0.heap.size w0 w
section
variable {w0 w w' w'' : World} {b g : Nat} {t : TypeId} {cs : Array Value} {l : List UInt8}
theorem gP.refl (b:Nat) (w:World):gP b w w:=⟨OthersKept.refl _ _ _,Nat.le_refl _⟩
theorem gP.trans (h:gP b w w') (k:gP b w' w''):gP b w w'':=⟨h.kept.trans k.kept,Nat.le_trans h.size k.size⟩
theorem gP.below (h:Below w.heap.size w w'):gP b w w':=⟨fun k o hk _ _=>by
 have hlt:k<w.heap.size:=by
  rcases Nat.lt_or_ge k w.heap.size with h | h
  ·exact h
  ·rw [Array.getElem?_eq_none h] at hk;cases hk
 rw [h.block k hlt];exact hk,h.size⟩
theorem ug.typed (h:ug w0 b l w):∃ cs,Sits w b tB cs:=by
 rcases h.is with h | h <;> (obtain ⟨_,v,hb,_⟩:=h;exact ⟨_,hb⟩)
theorem Sits.moved (h:Sits w g t cs) (k:gP b w w') (ht:t≠tU) (hg:g≠b):Sits w' g t cs :=
 k.kept g _ h (fun e=>hg (Option.some.inj e)) (fun c fz e=>ht (by injection e))
theorem ug.far (h:ug w0 b l w) (hs:Sits w g t cs) (ht:t≠tB):g≠b:=by
 obtain ⟨cs',hb⟩:=h.typed;exact hs.differ hb ht
theorem ug.grown (h:ug w0 b l w) (hb:Below w.heap.size w w'):ug w0 b l w':=by
 have key:∀ p,BuilderAtF tB tU w0.heap.size b p (byteCells l) w->BuilderAtF tB tU w0.heap.size b p (byteCells l) w':=fun p hp=>by
  have hlt:=hp.lt;obtain ⟨hB,v,hbk,hown,hne⟩:=hp;exact ⟨hB,v,(hb.block b hlt).trans hbk,hown.kept (row:=none) ⟨hb.os,hb.tape,hb.output,hb.size,fun k hk _=>hb.block k hk⟩ (by cases hv:v.ownBlock <;> simp),hne⟩
 exact ⟨h.is.elim (fun x => .inl (key _ x)) (fun x => .inr (key _ x)),h.low.trans (hb.mono h.low.size)⟩
theorem ug.EX {x:List UInt8} (h:ug w0 b l w) (k:Wrote w0.heap.size b (byteCells l ++ byteCells x) w w'):ug w0 b (l ++ x) w' /\ gP b w w' :=
 ⟨⟨.inr (by rw [byteCells_append];exact k.is),h.low.trans k.low⟩,k.kept,k.size⟩
end
theorem VI (w0:World) (b:Nat) (l x:List UInt8) (w:World) (h:ug w0 b l w) (hlen:l.length+x.length<=140737488355328) :
  Calls Tryz.prog 68 #[.pointer (some ⟨b,0,none⟩),.string (str x)] w fun e w'=>∃ z,e = .returned (.tuple #[z,.nilIface])/\ug w0 b (l ++ x) w' /\ gP b w w':=by
 refine (ET w0.heap.size b (byteCells l) (str x) w h.is (by rw [byteCells_length];exact hlen) h.low.size).mono ?_;rintro e w' ⟨rfl,hw⟩;rw [strCells_eq,qY] at hw;exact ⟨_,rfl,h.EX hw⟩
theorem VJ (w0:World) (b:Nat) (l:List UInt8) (w:World) (h:ug w0 b l w) (hlen:l.length+1<=140737488355328) :
  Calls Tryz.prog 69 #[.pointer (some ⟨b,0,none⟩),.int .u8 10] w fun e w'=>e = .returned .nilIface/\ug w0 b (l ++ [10]) w' /\ gP b w w':=by
 refine (Kc w0.heap.size b (byteCells l) 10 w h.is (by rw [byteCells_length];exact hlen) h.low.size).mono ?_;rintro e w' ⟨rfl,hw⟩;exact ⟨rfl,h.EX (x:=[10]) hw⟩
structure Put (b d:Nat) (v:Value) (w:World):Prop where
 fn:∃ gb gm,v = .func (.func 67) #[] #[.pointer (some ⟨gb,0,none⟩),.pointer (some ⟨gm,0,none⟩)]/\Sits w gb 86 #[.pointer (some ⟨b,0,none⟩)]/\Sits w gm 9 #[.string (str (indent d))]
theorem GI (d:Nat):(indent d).length=2 * d:=by simp [indent]
theorem AJ (d:Nat):Lib.repeatL [32,32] d=indent d:=by
 induction d with
 | zero=>rfl
 | succ d ih =>
  show [32,32] ++ Lib.repeatL [32,32] d=_
  rw [ih];unfold indent;rw [show 2 * (d+1)=2+2 * d by omega,<- List.replicate_append_replicate];rfl
theorem xK (b d:Nat) (hd:d<=100) (w:World):Calls Tryz.prog 27 #[.pointer (some ⟨b,0,none⟩),.int .i64 (d:Nat)] w fun e w'=>∃ v,e = .returned v/\Put b d v w' /\ Below w.heap.size w w':=by
 have HR:=hid (fun W=>(show Calls _ _ #[.string ⟨#[32,32]⟩,.int .i64 (d:Nat)] W fun e w'=>Made (.returned (.string (str (indent d)))) W e w' from by
  have h:=Tryz.strings_Repeat (str [32,32]) d W (by omega) (by simp [str,ByteArray.size];omega);rw [qY,AJ] at h
  exact h))
 have i1:(d:Int)<=100:=by omega
 clear hd;go_enter Tryz.func27,Tryz.ntmps27;go_wp2_with fail
 refine (HR.out _).mono ?_;rintro e w1 ⟨rfl,hb⟩;have hlt:w.heap.size<w1.heap.size:=by have:=hb.size;simp at this;omega
 have S1:Sits w1 w.heap.size 86 #[.pointer (some ⟨b,0,none⟩)]:=(Sits.new w _ _).below hb (by simp);have HB:=hid (Below.boxed _ _ hb);have HS:=hid S1;clear hb S1;go_wp2_with fail
 go_ret;refine ⟨_,rfl,⟨w.heap.size,w1.heap.size,rfl,HS.out.alloc _,Sits.new _ _ _⟩,HB.out.alloc HB.out.size _⟩
theorem Kg (w0:World) (b d:Nat) (l:List UInt8) (ws:List (List UInt8)) (gb gm:Nat) (vw:Value) (w:World) (hB:ug w0 b l w) (h1:Sits w gb 86 #[.pointer (some ⟨b,0,none⟩)]) (h2:Sits w gm 9 #[.string (str (indent d))])
  (hw:Words w vw ws) (hn:ws.length<=100) (hlen:l.length+(2 * d+ws.flatten.length+1)<=140737488355328) :
  Calls Tryz.prog 67 #[vw,.pointer (some ⟨gb,0,none⟩),.pointer (some ⟨gm,0,none⟩)] w fun e w'=>e = .returned (.tuple #[])/\ug w0 b (l ++ line d ws.flatten) w' /\ gP b w w':=by
 obtain ⟨g,rfl,hs⟩:=hw;have il:=GI d;have n1:=hB.far h1 (by decide);have n2:=hB.far h2 (by decide);have n3:=hB.far hs (by decide);have c1:=h1.cell 0;have c2:=h2.cell 0;have HW1:=hid (VI w0 b l (indent d) w hB (by omega));have i1:(ws.length:Int)<=100:=by omega
 have HM:=hid h1;have wL:=hid hs;have HLEN:=hid hlen;have Jd:=hid il;clear h1 h2 hs hB hlen il;go_enter Tryz.func67,Tryz.ntmps67;go_wp2_with fail
 refine HW1.out.mono ?_;rintro e w1 ⟨z,rfl,hB1,hM1⟩;have HB1:=hid hB1;have Y0:=hid hM1;have S1:=hid (Sits.moved HM.out hM1 (by decide) n1);have S2:=hid (Sits.moved wL.out hM1 (by decide) n3);clear hB1 hM1 c1 c2;go_wp2_with fail
 go_loopg [11] ws.length (fun g v11 wx=>∃ k,k<=ws.length/\g=ws.length - k/\v11 = .int .i64 (k:Nat)/\Hid (ug w0 b (l ++ indent d ++ (ws.take k).flatten) wx)/\Hid (gP b w1 wx))
 case atStart=>exact ⟨0,by omega,by omega,rfl,hid (by simpa using HB1.out),hid (gP.refl _ _)⟩
 case round =>
  obtain ⟨k,hk,rfl,rfl,R4,Qc⟩:=hrel;have T1:=Sits.moved S1.out Qc.out (by decide) n1;have T2:=Sits.moved S2.out Qc.out (by decide) n3;have c1:=T1.cell 0;have l1:=T1.lt;have l2:=T2.lt;by_cases hlt:k<ws.length
  ·have i2:(k:Int)<(ws.length:Int):=by omega
   have hx:ws[k]? = some ws[k]:=List.getElem?_eq_getElem hlt;have c2:wr.cell? ⟨g,k,none⟩=some (.string (str ws[k])):=by rw [T2.cell];exact EU hx
   have HT:=hid (show (ws.take (k+1)).flatten=(ws.take k).flatten ++ ws[k] by rw [List.take_succ_eq_append_getElem hlt,List.flatten_append];simp);have hfl:(ws.take (k+1)).flatten.length<=ws.flatten.length:=by
    have:=congrArg (fun l=>l.flatten.length) (List.take_append_drop (k+1) ws);simp only [List.flatten_append,List.length_append] at this
    omega
   have XY:=hid (VI w0 b _ ws[k] wr R4.out (by
    have:=HLEN.out;have:=Jd.out;rw [HT.out,List.length_append] at hfl
    simp only [List.length_append];omega))
   clear T1 T2 hx hfl;generalize ws[k]=x at c2 HT XY;go_wp2_with fail
   refine XY.out.mono ?_;rintro e w2 ⟨z,rfl,hB2,hM2⟩;have HB2:=hid hB2;have TD:=hid (Qc.out.trans hM2);clear hB2 hM2;go_wp2_with fail
   go_roundg (ws.length - (k+1))
   case measure=>omega
   case rel=>exact ⟨k+1,by omega,rfl,by go_num,hid (by rw [HT.out,<- List.append_assoc];exact HB2.out),TD⟩
  ·obtain rfl:k=ws.length:=by omega
   have XY:=hid (VJ w0 b _ wr R4.out (by
    have:=HLEN.out;have:=Jd.out;rw [List.take_of_length_le (Nat.le_refl _)]
    simp only [List.length_append];omega))
   clear T1 T2;go_wp2_with fail
   refine XY.out.mono ?_;rintro e w2 ⟨rfl,hB2,hM2⟩;have HB2:=hid hB2;have TD:=hid (Y0.out.trans (Qc.out.trans hM2));clear hB2 hM2;go_wp2_with fail
   go_end0
   exact ⟨rfl,by
    have h:=HB2.out;rw [List.take_of_length_le (Nat.le_refl _)] at h
    simpa [line] using h,TD.out⟩
def gQ (U:Nat->Prop) (w:World) (v:Value) (n:Nat) (cs:List Value):Prop :=
 (n=0/\∃ p cap,v = .slice p 0 cap) \/ ∃ g o cap,v = .slice (some ⟨g,o,none⟩) n cap/\U g/\n<=1000000/\∀ j u,cs[j]? = some u->w.cell? ⟨g,o+j,none⟩=some u
def Holds (U:Nat->Prop) (w:World):az->List Value->Prop
 | .nil,cs=>cs=[]
 | .cons m t e r,cs=>∃ av bv tv ev ct ce cr,cs=eQ m av bv tv ev ++ cr/\Tree w (kr m.a) av/\Tree w (kr m.b) bv/\gQ U w tv t.len ct/\Holds U w t ct/\gQ U w ev e.len ce/\Holds U w e ce/\Holds U w r cr
def aR (U:Nat->Prop) (w:World) (b:az) (v:Value):Prop:=∃ cs,gQ U w v b.len cs/\Holds U w b cs
abbrev gu:Nat->Prop:=fun _=>True
section
variable {U X : Nat → Prop} {w w' : World} {v : Value} {n : Nat} {cs : List Value} {b : az}
theorem gQ.len (h:gQ U w v n cs):∃ p cap,v = .slice p n cap/\n<=1000000:=by
 rcases h with ⟨rfl,p,cap,hv⟩ | ⟨g,o,cap,hv,_,hn,_⟩
 ·exact ⟨p,cap,hv,by omega⟩
 ·exact ⟨_,cap,hv,hn⟩
theorem gQ.wider (h:gQ U w v n cs) (hx:∀ g,U g->X g):gQ X w v n cs:=by
 rcases h with h | ⟨g,o,cap,hv,hg,h⟩
 ·exact .inl h
 ·exact .inr ⟨g,o,cap,hv,hx g hg,h⟩
theorem gQ.keep (h:gQ U w v n cs) (hk:∀ g,U g->∀ j u,w.cell? ⟨g,j,none⟩=some u->w'.cell? ⟨g,j,none⟩=some u):gQ U w' v n cs:=by
 rcases h with h | ⟨g,o,cap,hv,hg,hn,h⟩
 ·exact .inl h
 ·exact .inr ⟨g,o,cap,hv,hg,hn,fun j u hu=>hk g hg _ _ (h j u hu)⟩
theorem Holds.wider (hx:∀ g,U g->X g):∀ {b:az} {cs:List Value},Holds U w b cs->Holds X w b cs:=by
 intro b;induction b with
 | nil=>intro cs h;exact h
 | cons m t e r F9 Kh ihr =>
  intro cs h;obtain ⟨av,bv,tv,ev,ct,ce,cr,h1,h2,h3,h4,h5,h6,h7,h8⟩:=h;exact ⟨av,bv,tv,ev,ct,ce,cr,h1,h2,h3,h4.wider hx,F9 h5,h6.wider hx,Kh h7,ihr h8⟩
theorem Holds.keep (hs:Stable 159 w w') (hk:∀ g,U g->∀ j u,w.cell? ⟨g,j,none⟩=some u->w'.cell? ⟨g,j,none⟩=some u):∀ {b:az} {cs:List Value},Holds U w b cs->Holds U w' b cs:=by
 intro b;induction b with
 | nil=>intro cs h;exact h
 | cons m t e r F9 Kh ihr =>
  intro cs h;obtain ⟨av,bv,tv,ev,ct,ce,cr,h1,h2,h3,h4,h5,h6,h7,h8⟩:=h;exact ⟨av,bv,tv,ev,ct,ce,cr,h1,h2.stable hs,h3.stable hs,h4.keep hk,F9 h5,h6.keep hk,Kh h7,ihr h8⟩
theorem cell_below (hb:Below w.heap.size w w'):∀ g,U g->∀ j u,w.cell? ⟨g,j,none⟩=some u->w'.cell? ⟨g,j,none⟩=some u :=
 fun g _ j _ h=>(hb.cell (p:=⟨g,j,none⟩) (World.block_lt_of_cell? _ _ h)).trans h
theorem Holds.below (h:Holds U w b cs) (hb:Below w.heap.size w w'):Holds U w' b cs:=h.keep (Stable.below hb) (cell_below hb)
theorem gQ.below (h:gQ U w v n cs) (hb:Below w.heap.size w w'):gQ U w' v n cs:=h.keep (cell_below hb)
theorem aR.below (h:aR U w b v) (hb:Below w.heap.size w w'):aR U w' b v:=by
 obtain ⟨cs,h1,h2⟩:=h;exact ⟨cs,h1.below hb,h2.below hb⟩
theorem aR.wider (h:aR U w b v) (hx:∀ g,U g->X g):aR X w b v:=by
 obtain ⟨cs,h1,h2⟩:=h;exact ⟨cs,h1.wider hx,h2.wider hx⟩
theorem aR.keep (h:aR U w b v) (hs:Stable 159 w w') (hk:∀ g,U g->∀ j u,w.cell? ⟨g,j,none⟩=some u->w'.cell? ⟨g,j,none⟩=some u):aR U w' b v:=by
 obtain ⟨cs,h1,h2⟩:=h;exact ⟨cs,h1.keep hk,h2.keep hs hk⟩
end
def EY (w:World) (g o:Nat) (m:Mk) (av bv tv ev:Value):Prop :=
 w.cell? ⟨g,o,none⟩=some (.int .u8 m.kind)/\w.cell? ⟨g,o+1,none⟩=some (.int .u8 m.reg)/\w.cell? ⟨g,o+2,none⟩=some (.int .u8 m.mode)/\w.cell? ⟨g,o+3,none⟩=some (.int .u8 m.loc) /\
  w.cell? ⟨g,o+4,none⟩=some av/\w.cell? ⟨g,o+5,none⟩=some bv/\w.cell? ⟨g,o+6,none⟩=some tv/\w.cell? ⟨g,o+7,none⟩=some ev
structure Rest (w:World) (g o n:Nat) (r:az) (k:Nat):Prop where
 len:k+r.len=n
 at_:∃ cs,Holds gu w r cs/\∀ j u,cs[j]? = some u->w.cell? ⟨g,o+k * 8+j,none⟩=some u
theorem aR.rest {w:World} {b:az} {v:Value} {U:Nat->Prop} (h:aR U w b v) (hn:b.len≠0):∃ g o cap,v = .slice (some ⟨g,o,none⟩) b.len cap/\b.len<=1000000/\Rest w g o b.len b 0:=by
 obtain ⟨cs,h1,h2⟩:=h;rcases h1 with ⟨h0,_⟩ | ⟨g,o,cap,hv,_,hl,hc⟩
 ·exact absurd h0 hn
 ·exact ⟨g,o,cap,hv,hl,by omega,cs,h2.wider (fun _ _=>trivial),fun j u hu=>by simpa using hc j u hu⟩
theorem Rest.next {w:World} {g o n k:Nat} {m:Mk} {t e r:az} (h:Rest w g o n (.cons m t e r) k):k<n/\Rest w g o n r (k+1)/\∃ av bv tv ev,EY w g (o+k * 8) m av bv tv ev/\Tree w (kr m.a) av/\Tree w (kr m.b) bv/\aR gu w t tv/\aR gu w e ev:=by
 obtain ⟨h1,cs,h2,h3⟩:=h;obtain ⟨av,bv,tv,ev,ct,ce,cr,rfl,ha,hb,hct,ht,hce,he,hr⟩:=h2;simp only [az.len] at h1
 have at_:∀ j u,j<8->(eQ m av bv tv ev)[j]? = some u->w.cell? ⟨g,o+k * 8+j,none⟩=some u:=fun j u hj hu =>
  h3 j u (by rw [List.getElem?_append_left (by simp [eQ];omega)];exact hu)
 refine ⟨by omega,⟨by omega,cr,hr,fun j u hu=>?_⟩,av,bv,tv,ev,⟨at_ 0 _ (by omega) rfl,at_ 1 _ (by omega) rfl,at_ 2 _ (by omega) rfl,at_ 3 _ (by omega) rfl,at_ 4 _ (by omega) rfl,at_ 5 _ (by omega) rfl,at_ 6 _ (by omega) rfl,at_ 7 _ (by omega) rfl⟩,ha,hb,⟨ct,hct,ht⟩,⟨ce,hce,he⟩⟩;have:=h3 (8+j) u (by rw [List.getElem?_append_right (by simp [eQ])];simpa [eQ] using hu);rw [show o+(k+1) * 8+j=o+k * 8+(8+j) by omega];exact this
theorem aR.len {U:Nat->Prop} {w:World} {b:az} {v:Value} (h:aR U w b v):∃ p cap,v = .slice p b.len cap/\b.len<=1000000:=by
 obtain ⟨cs,h1,_⟩:=h;exact h1.len
def uU (w:World) (p:Option Addr) (n:Nat) (r:az) (k:Nat):Prop:=k+r.len=n/\(r = .nil \/ ∃ g o,p=some ⟨g,o,none⟩/\Rest w g o n r k)
theorem aR.rests {w:World} {b:az} {v:Value} {U:Nat->Prop} (h:aR U w b v):∃ p cap,v = .slice p b.len cap/\b.len<=1000000/\uU w p b.len b 0:=by
 by_cases hn:b.len=0
 ·obtain ⟨p,cap,hv,hl⟩:=h.len
  exact ⟨p,cap,hv,hl,by omega,.inl (az.yT hn)⟩
 ·obtain ⟨g,o,cap,hv,hl,hr⟩:=h.rest hn
  exact ⟨_,cap,hv,hl,by omega,.inr ⟨g,o,rfl,hr⟩⟩
theorem uU.next {w:World} {p:Option Addr} {n k:Nat} {m:Mk} {t e r:az} (h:uU w p n (.cons m t e r) k) :
  ∃ g o,p=some ⟨g,o,none⟩/\k<n/\uU w p n r (k+1)/\∃ av bv tv ev,EY w g (o+k * 8) m av bv tv ev/\Tree w (kr m.a) av/\Tree w (kr m.b) bv/\aR gu w t tv/\aR gu w e ev:=by
 obtain ⟨h1,h2⟩:=h;rcases h2 with h2 | ⟨g,o,hp,hr⟩
 ·cases h2
 ·obtain ⟨hk,hr',h3⟩:=hr.next
  exact ⟨g,o,hp,hk,⟨hr'.len,.inr ⟨g,o,hp,hr'⟩⟩,h3⟩
theorem az.MR (p b:az) (d:Nat) (hd:d<=8):(p.app b).text d=p.text d ++ b.text d:=by
 induction p with
 | nil=>rfl
 | cons m t e r _ _ ih =>
  have hn:¬ 8<d:=by omega
  simp only [az.app,az.text,if_neg hn,ih,List.append_assoc]
theorem az.Ki (b:az) {d:Nat} (h:8<d):b.text d=[]:=by
 cases b with
 | nil=>rfl
 | cons m t e r=>simp only [az.text];rw [if_pos h]
theorem az.Je (p:az) (m:Mk) (t e:az):p.snoc m t e=p.app (.cons m t e .nil):=by
 have:=az.kR p m t e .nil
 rwa [az.uT] at this
def wO (m:Mk) (t e:az) (d:Nat):List UInt8:=(az.cons m t e .nil).text d
theorem az.Kj (p:az) (m:Mk) (t e:az) (d:Nat) (hd:d<=8):(p.snoc m t e).text d=p.text d ++ wO m t e d:=by
 rw [az.Je,az.MR _ _ _ hd];rfl
theorem VK {m:Mk} (t e:az) {d:Nat} (hd:d<=8) (hk:m.kind=8):wO m t e d=line d (gI m) ++ t.text (d+1) ++ (if e.len=0 then [] else line d lN ++ e.text (d+1)) ++ line d [125]:=by
 unfold wO;rw [Bn t e .nil hd (by omega)];simp [CU,hk,az.text]
theorem EZ {m:Mk} (t e:az) {d:Nat} (hd:d<=8) (hk:1<=m.kind/\m.kind<=7):wO m t e d=line d (gI m):=by
 unfold wO;rw [Bn t e .nil hd (by omega)];simp [CU,show m.kind≠8 by omega,show m.kind≠9 by omega,az.text]
theorem az.yV (p b:az):(p.app b).size=p.size+b.size:=by
 induction p with
 | nil=>simp [az.app,az.size]
 | cons m t e r _ _ ih=>simp only [az.app,az.size,ih];omega
theorem az.E5 {p b:az} (h:(p.app b).fine):b.fine:=by
 induction p with
 | nil=>exact h
 | cons m t e r _ _ ih=>exact ih h.2.2.2.2.2.2.2.2
theorem az.Kk {p b:az} (h:(p.app b).fine):p.fine:=by
 induction p with
 | nil=>trivial
 | cons m t e r _ _ ih =>
  obtain ⟨h1,h2,h3,h4,h5,h6,h7,h8,h9⟩:=h;exact ⟨h1,h2,h3,h4,h5,h6,h7,h8,ih h9⟩
theorem pM {a:Option Ex} (h:okO a):(qC a).length<=114660:=by
 cases a with
 | none=>simp [qC]
 | some e=>exact pJ e h.1 h.2
theorem uV {m:Mk} (ha:okO m.a) (hb:okO m.b) (hr:m.reg<256):(gI m).length<=230000:=by
 have h1:=pM ha;have h2:=pM hb;have h3:=qX m.mode;have h4:=lJ m.reg (by omega);unfold gI
 split <;> simp only [List.length_cons,List.length_append,List.length_nil] <;> omega
theorem az.mr {b:az} (h:b.fine):∀ d,(b.text d).length<=240000 * b.size:=by
 induction b with
 | nil=>intro d;simp [az.text]
 | cons m t e r F9 Kh ihr =>
  intro d;obtain ⟨ha,hb,hr,hmo,hlo,hki,ht,he,hrr⟩:=h;have h1:=uV ha hb hr;have h2:=F9 ht (d+1);have h3:=Kh he (d+1);have h4:=ihr hrr d;by_cases hd:8<d
  ·simp only [az.text];rw [if_pos hd];simp
  ·have hi:(indent d).length<=16:=by simp [indent];omega
   simp only [az.text,az.size]
   rw [if_neg hd];have hl:∀ s,(line d s).length<=17+s.length:=fun s=>by simp only [line,List.length_append,List.length_cons,List.length_nil];omega
   have l1:=hl (gI m);have l2:=hl lN;have l3:=hl [125];have l4:lN.length=8:=rfl;simp only [List.length_cons,List.length_nil] at l3
   rw [List.length_append]
   split
   ·simp only [List.length_append]
    split
    ·simp only [List.length_nil];omega
    ·simp only [List.length_append];omega
   ·split
    ·simp only [List.length_append];omega
    ·split
     ·omega
     ·simp only [List.length_nil];omega
theorem EY.low {w w':World} {g o:Nat} {m:Mk} {av bv tv ev:Value} (h:EY w g o m av bv tv ev) (hb:Below w.heap.size w w'):EY w' g o m av bv tv ev:=by
 obtain ⟨h0,h1,h2,h3,h4,h5,h6,h7⟩:=h;have k:=cell_below (U:=gu) hb g trivial;exact ⟨k _ _ h0,k _ _ h1,k _ _ h2,k _ _ h3,k _ _ h4,k _ _ h5,k _ _ h6,k _ _ h7⟩
def kd (l:List az):Nat:=l.foldr (fun b m=>max (b.deep+1) m) 1
def dV (k:Nat):List Nat:=if k=2 then [1,2,3] else if k=3 then [1,2,4] else if k=4 \/ k=5 \/ k=6 then [2,3,4,5] else if k=7 then [3,4,5,6] else []
def Small (w:World) (v:Value) (l:List Nat):Prop:=(l=[]/\v = .slice none 0 0) \/ ∃ g,v = .slice (some ⟨g,0,none⟩) l.length l.length/\Sits w g 5 (l.map fun (n:Nat)=>Value.int .u8 (n:Int)).toArray
theorem MS (p:Option Addr) (n c:Nat) (w:World):Calls Tryz.prog 152 #[.slice p n c] w fun e w'=>e = .returned (.slice p n c)/\w=w':=by
 go_enter Tryz.func152,Tryz.ntmps152;go_wp2_with fail
 go_ret;exact ⟨rfl,rfl⟩
def Bp (k:Nat) (w:World) (e:Ending) (w':World):Prop:=∃ v,e = .returned v/\Small w' v (dV k)/\Below w.heap.size w w'
theorem Kl (k:Nat) (hk:k<256) (w:World):Calls Tryz.prog 144 #[.int .u8 (k:Nat)] w (Bp k w):=by
 by_cases h:k=2 \/ k=3 \/ k=4 \/ k=5 \/ k=6 \/ k=7
 ·obtain rfl | rfl | rfl | rfl | rfl | rfl:=h <;>
  ·clear hk
   go_enter Tryz.func144,Tryz.ntmps144;go_wp2_with fail
   refine (MS _ _ _ _).mono ?_;rintro e w1 ⟨rfl,rfl⟩;go_wp2_with fail
   go_ret;exact ⟨_,rfl,.inr ⟨_,rfl,Sits.made (by simp) _ _⟩,(Below.refl _ _).alloc (Nat.le_refl _) _⟩
 ·have hm:dV k=[]:=by unfold dV;rw [if_neg (by omega),if_neg (by omega),if_neg (by omega),if_neg (by omega)]
  have HM:=hid hm;have i2:((k:Int) == 2)=false:=beq_eq_false_iff_ne.2 (by omega);have i3:((k:Int) == 3)=false:=beq_eq_false_iff_ne.2 (by omega);have i4:((k:Int) == 4)=false:=beq_eq_false_iff_ne.2 (by omega);have i5:((k:Int) == 5)=false:=beq_eq_false_iff_ne.2 (by omega);have i6:((k:Int) == 6)=false:=beq_eq_false_iff_ne.2 (by omega);have i7:((k:Int) == 7)=false:=beq_eq_false_iff_ne.2 (by omega);clear h hm;go_enter Tryz.func144,Tryz.ntmps144;go_wp2_with fail
  go_ret;exact ⟨_,rfl,.inl ⟨HM.out,rfl⟩,Below.refl _ _⟩
end Go.Proofs.YtaanhmndeobgbaaGreatDoor.Prog
