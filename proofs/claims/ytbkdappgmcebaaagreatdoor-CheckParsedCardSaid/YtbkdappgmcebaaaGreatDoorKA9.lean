/- Part 10 of the proof: what is used of the texts StmS, StmA, StmB, StmC. -/
import Derived.Test.YtbkdappgmcebaaaGreatDoorKA4
import Derived.Test.YtbkdappgmcebaaaGreatDoorKA2
import Derived.Test.YtbkdappgmcebaaaGreatDoorKA0
import Derived.Lib.FrozenHead2
import Derived.Lib.OthersKept
import Derived.Laws.Entries
import Derived.Test.YtbkdappgmcebaaaGreatDoorKA8
import Derived.Lib.Join
section
namespace Go.Proofs.YtbkdappgmcebaaaGreatDoor.Prog
open Go.Proofs.YtbkdappgmcebaaaGreatDoor.Expr
structure Mk where
  kind:Nat
  reg:Nat
  mode:Nat
  loc:Nat
  a:Option Ex
  b:Option Ex
deriving DecidableEq
inductive Blk
  | nil
  | cons (m:Mk) (t e r:Blk)
deriving DecidableEq
def Blk.len:Blk->Nat
  | .nil=>0
  | .cons _ _ _ r=>r.len+1
def Blk.size:Blk->Nat
  | .nil=>0
  | .cons _ t e r=>t.size+e.size+r.size+1
def Blk.snoc:Blk->Mk->Blk->Blk->Blk
  | .nil,m,t,e => .cons m t e .nil
  | .cons m' t' e' r,m,t,e => .cons m' t' e' (r.snoc m t e)
def Blk.app:Blk->Blk->Blk
  | .nil,b=>b
  | .cons m t e r,b => .cons m t e (r.app b)
theorem Blk.app_nil (b:Blk):b.app .nil=b:=by
  induction b with
  | nil=>rfl
  | cons m t e r _ _ ih=>simp only [Blk.app,ih]
theorem Blk.snoc_app (p:Blk) (m:Mk) (t e r:Blk):(p.snoc m t e).app r=p.app (.cons m t e r):=by
  induction p with
  | nil=>rfl
  | cons m' t' e' r' _ _ ih=>simp only [Blk.snoc,Blk.app,ih]
theorem Blk.len_snoc (p:Blk) (m:Mk) (t e:Blk):(p.snoc m t e).len=p.len+1:=by
  induction p with
  | nil=>rfl
  | cons m' t' e' r' _ _ ih=>simp only [Blk.snoc,Blk.len,ih]
theorem Blk.len_app (p b:Blk):(p.app b).len=p.len+b.len:=by
  induction p with
  | nil=>simp [Blk.app,Blk.len]
  | cons m' t' e' r' _ _ ih=>simp only [Blk.app,Blk.len,ih];omega
theorem Blk.len_zero {b:Blk} (h:b.len=0):b = .nil:=by
  cases b with
  | nil=>rfl
  | cons _ _ _ _=>simp [Blk.len] at h
def Blk.deep:Blk->Nat
  | .nil=>1
  | .cons m t e r=>max (if m.kind=8 then max (t.deep+1) (e.deep+1) else if m.kind=9 then t.deep+1 else 1) r.deep
theorem Blk.deep_pos (b:Blk):1<=b.deep:=by
  induction b with
  | nil=>exact Nat.le_refl _
  | cons m t e r _ _ ih=>simp only [Blk.deep];omega
def Blk.told:Blk->Nat->Nat
  | .nil,_=>0
  | .cons _ _ _ _,0=>0
  | .cons m t e r,room+1=>1+(if m.kind=8 then t.told room+e.told room else if m.kind=9 then t.told room else 0)+r.told (room+1)
def Blk.over:Blk->Nat->Bool
  | .nil,_=>false
  | .cons _ _ _ _,0=>true
  | .cons _ t e r,room+1=>t.over room || e.over room || r.over (room+1)
def trO:Option Ex->Tr
  | none => .nil
  | some e=>treeOf e
def okO:Option Ex->Prop
  | none=>True
  | some e=>e.ok/\e.depth<=12
theorem trO_inj {a b:Option Ex} (h:trO a=trO b):a=b:=by
  cases a with
  | none=>cases b with
    | none=>rfl
    | some e=>cases e <;> simp [trO,treeOf] at h
  | some e=>cases b with
    | none=>cases e <;> simp [trO,treeOf] at h
    | some f=>rw [treeOf_inj e f h]
def exO:Option Ex->List UInt8
  | none=>[]
  | some e=>e.text
def modeTxt (m:Nat):List UInt8:=[[],[112,108,110],[114,108,120],[97,99,113],[114,101,108],[97,114],[115,99]].getD m []
def headOf (m:Mk):List UInt8 :=
  match m.kind with
  | 1=>114 :: (dec m.reg ++ 32 :: 61 :: 32 :: (exO m.a ++ [59]))
  | 2=>114 :: (dec m.reg ++ 32 :: 61 :: 32 :: 108 :: 111 :: 97 :: 100 :: 40 :: m.loc.toUInt8 :: 44 :: 32 :: (modeTxt m.mode ++ [41,59]))
  | 3=>115 :: 116 :: 111 :: 114 :: 101 :: 40 :: m.loc.toUInt8 :: 44 :: 32 :: (exO m.a ++ 44 :: 32 :: (modeTxt m.mode ++ [41,59]))
  | 4=>114 :: (dec m.reg ++ 32 :: 61 :: 32 :: 115 :: 119 :: 97 :: 112 :: 40 :: m.loc.toUInt8 :: 44 :: 32 :: (exO m.a ++ 44 :: 32 :: (modeTxt m.mode ++ [41,59])))
  | 5=>114 :: (dec m.reg ++ 32 :: 61 :: 32 :: 97 :: 100 :: 100 :: 40 :: m.loc.toUInt8 :: 44 :: 32 :: (exO m.a ++ 44 :: 32 :: (modeTxt m.mode ++ [41,59])))
  | 6=>114 :: (dec m.reg ++ 32 :: 61 :: 32 :: 99 :: 97 :: 115 :: 40 :: m.loc.toUInt8 :: 44 :: 32 :: (exO m.a ++ 44 :: 32 :: (exO m.b ++ 44 :: 32 :: (modeTxt m.mode ++ [41,59]))))
  | 7=>102 :: 101 :: 110 :: 99 :: 101 :: 40 :: (modeTxt m.mode ++ [41,59])
  | 8=>105 :: 102 :: 32 :: 40 :: (exO m.a ++ [41,32,123])
  | 9=>119 :: 104 :: 105 :: 108 :: 101 :: 32 :: 40 :: (exO m.a ++ [41,32,123])
  | _=>[]
def indent (d:Nat):List UInt8:=List.replicate (2 * d) 32
def line (d:Nat) (s:List UInt8):List UInt8:=indent d ++ (s ++ [10])
def elseTxt:List UInt8:=[125,32,101,108,115,101,32,123]
def Blk.text:Blk->Nat->List UInt8
  | .nil,_=>[]
  | .cons m t e r,d =>
    if 8<d then [] else
    (if m.kind=8 then line d (headOf m) ++ (t.text (d+1) ++ ((if e.len=0 then [] else line d elseTxt ++ e.text (d+1)) ++ line d [125]))
      else if m.kind=9 then line d (headOf m) ++ (t.text (d+1) ++ line d [125])
      else if 1<=m.kind/\m.kind<=7 then line d (headOf m) else []) ++ r.text d
structure Ts where
  init:List (Nat × Nat)
  threads:List Blk
  all:Bool
  ask:Option Ex
deriving DecidableEq
def initTxt (i:Nat × Nat):List UInt8:=105 :: 110 :: 105 :: 116 :: 32 :: i.1.toUInt8 :: 32 :: 61 :: 32 :: (dec i.2 ++ [59,10])
def threadTxt (b:Blk):List UInt8:=[116,104,114,101,97,100,32,123,10] ++ (b.text 1 ++ [125,10])
def quant (all:Bool):List UInt8:=if all then [102,111,114,97,108,108] else [101,120,105,115,116,115]
def Ts.text (t:Ts):List UInt8:=t.init.flatMap initTxt ++ (t.threads.flatMap threadTxt ++ (quant t.all ++ 32 :: (exO t.ask ++ [59,10])))
def isLetter (x:Nat):Prop:=97<=x/\x<=122
def Mk.proper (m:Mk):Prop :=
  okO m.a/\okO m.b /\
  match m.kind with
  | 1=>m.mode=0/\m.loc=0/\m.a.isSome/\m.b=none
  | 2=>(m.mode=1 \/ m.mode=2 \/ m.mode=3)/\isLetter m.loc/\m.a=none/\m.b=none
  | 3=>(m.mode=1 \/ m.mode=2 \/ m.mode=4)/\isLetter m.loc/\m.reg=0/\m.a.isSome/\m.b=none
  | 4=>(m.mode=2 \/ m.mode=3 \/ m.mode=4 \/ m.mode=5)/\isLetter m.loc/\m.a.isSome/\m.b=none
  | 5=>(m.mode=2 \/ m.mode=3 \/ m.mode=4 \/ m.mode=5)/\isLetter m.loc/\m.a.isSome/\m.b=none
  | 6=>(m.mode=2 \/ m.mode=3 \/ m.mode=4 \/ m.mode=5)/\isLetter m.loc/\m.a.isSome/\m.b.isSome
  | 7=>(m.mode=3 \/ m.mode=4 \/ m.mode=5 \/ m.mode=6)/\m.loc=0/\m.reg=0/\m.a=none/\m.b=none
  | 8=>m.mode=0/\m.loc=0/\m.reg=0/\m.a.isSome/\m.b=none
  | 9=>m.mode=0/\m.loc=0/\m.reg=0/\m.a.isSome/\m.b=none
  | _=>False
def Blk.proper:Blk->Prop
  | .nil=>True
  | .cons m t e r=>m.proper/\t.proper/\e.proper/\r.proper/\(m.kind≠8->e = .nil)/\(m.kind≠8->m.kind≠9->t = .nil)
def Blk.fine:Blk->Prop
  | .nil=>True
  | .cons m t e r=>okO m.a/\okO m.b/\m.reg<256/\m.mode<256/\m.loc<256/\m.kind<256/\t.fine/\e.fine/\r.fine
theorem kinds {m:Mk} (h:m.proper):m.kind=1 \/ m.kind=2 \/ m.kind=3 \/ m.kind=4 \/ m.kind=5 \/ m.kind=6 \/ m.kind=7 \/ m.kind=8 \/ m.kind=9:=by
  obtain ⟨k,r,mo,x,a,b⟩:=m
  obtain ⟨_,_,h⟩:=h
  simp only at h ⊢
  split at h <;> simp_all
def tailOf (m:Mk) (t e:Blk) (d:Nat):List UInt8 :=
  if m.kind=8 then t.text (d+1) ++ ((if e.len=0 then [] else line d elseTxt ++ e.text (d+1)) ++ line d [125])
  else if m.kind=9 then t.text (d+1) ++ line d [125] else []
theorem text_cons {m:Mk} (t e r:Blk) {d:Nat} (hd:d<=8) (hk:1<=m.kind/\m.kind<=9):(Blk.cons m t e r).text d=line d (headOf m) ++ (tailOf m t e d ++ r.text d):=by
  simp only [Blk.text,tailOf]
  rw [if_neg (by omega)]
  by_cases h8:m.kind=8
  · simp only [if_pos h8,List.append_assoc]
  · by_cases h9:m.kind=9
    · simp only [if_neg h8,if_pos h9,List.append_assoc]
    · simp only [if_neg h8,if_neg h9]
      rw [if_pos (by omega)];simp
theorem proper_cons {m:Mk} {t e r:Blk} (h:(Blk.cons m t e r).proper):m.proper/\t.proper/\e.proper/\r.proper/\(m.kind≠8->e = .nil)/\(m.kind≠8->m.kind≠9->t = .nil):=h
structure Ts.proper (t:Ts):Prop where
  init:∀ i ∈ t.init,isLetter i.1
  threads:∀ b ∈ t.threads,b.proper/\b.deep<=8
  some:t.ask.isSome=true
  ask:okO t.ask
end Go.Proofs.YtbkdappgmcebaaaGreatDoor.Prog
end
section
namespace Go.Proofs.YtbkdappgmcebaaaGreatDoor.Prog
open Go.RowKit Go.Proofs.YtbkdappgmcebaaaGreatDoor.Mem Go.Lib
abbrev tB:TypeId:=122
abbrev tU:TypeId:=5
theorem sizeB:(Tryz.prog.info? tB).map (·.size)=some 2:=by kernel_rfl
theorem liesB:liesAt Tryz.prog Tryz.prog.depth tB (2 / Tryz.prog.cellsOf tB) 0 tB 1=true:=by kernel_rfl
theorem infoU:(Tryz.prog.info? tU).map (fun i=>(i.zero,i.size,i.bytes))=some (some (.int .u8 0),1,1):=by kernel_rfl
set_option maxRecDepth 100000 in
theorem check_fresh (b:Nat) (w:World) (h0:w.cell? ⟨b,0,none⟩=some (.pointer none)) (hsh:w.shape? b=some (tB,2)) (hfz:w.frozen? ⟨b,0,none⟩=false) :
    Calls Tryz.prog 160 #[.pointer (some ⟨b,0,none⟩)] w fun e w'=>e = .returned (.tuple #[])/\w' = w.setCell ⟨b,0,none⟩ (.pointer (some ⟨b,0,none⟩)):=by
  obtain ⟨j,hj,hjs⟩:=Option.map_eq_some_iff.1 sizeB
  go_enter Tryz.func160,Tryz.ntmps160
  go_wp2
  rw [Lib.run_to_unsafe w ⟨b,0,none⟩ Tryz.underlying119 Tryz.underlying253 hj (by rw [hjs];decide) hsh (Nat.zero_lt_succ 1)]
  simp only [Result.andThen]
  rw [Oper.upon_value]
  go_wp2
  rw [run_callFunc_extern Tryz.func195 (by kernel_rfl) (by kernel_rfl) (by kernel_rfl) (e:=Extern.AbiNoEscape.same) (by kernel_rfl)]
  rw [Lib.run_noEscape]
  simp only [Result.andThen]
  rw [Oper.upon_value]
  go_wp2
  rw [Lib.run_from_unsafe w ⟨b,0,none⟩ Tryz.underlying253 Tryz.underlying119 hj hsh liesB]
  simp only [Result.andThen]
  rw [Oper.upon_value]
  go_wp2
  go_end0
  exact ⟨rfl,rfl⟩
set_option maxRecDepth 100000 in
theorem check_used (b:Nat) (w:World) (h0:w.cell? ⟨b,0,none⟩=some (.pointer (some ⟨b,0,none⟩))) :
    Calls Tryz.prog 160 #[.pointer (some ⟨b,0,none⟩)] w fun e w'=>e = .returned (.tuple #[])/\w' = w:=by
  obtain ⟨j,hj,hjs⟩:=Option.map_eq_some_iff.1 sizeB
  have hne:=Lib.run_neq_ptr_same (P:=Tryz.prog) w ⟨b,0,none⟩ Tryz.underlying119 hj
  go_enter Tryz.func160,Tryz.ntmps160
  go_wp2
  go_end0
  exact ⟨rfl,rfl⟩
theorem check_any (B b:Nat) (bs:List Value) (w:World) (h:IsBuilderF tB tU B b bs w) :
    Calls Tryz.prog 160 #[.pointer (some ⟨b,0,none⟩)] w fun e w'=>e = .returned (.tuple #[])/\BuilderAtF tB tU B b (.pointer (some ⟨b,0,none⟩)) bs w' /\ Below B w w' /\ OthersKept tU (some b) w w' /\ w.heap.size<=w'.heap.size:=by
  rcases h with h | h
  · refine (check_fresh b w h.cell0 h.shape h.frozen0).mono ?_
    rintro e w' ⟨rfl,rfl⟩
    exact ⟨rfl,h.used _,(Below.refl B w).setCell (p:=⟨b,0,none⟩) h.1 _,(OthersKept.refl _ _ w).setCell ⟨b,0,none⟩ rfl _,by simp [World.setCell]⟩
  · refine (check_used b w h.cell0).mono ?_
    rintro e w' ⟨rfl,rfl⟩
    exact ⟨rfl,h,Below.refl B _,OthersKept.refl _ _ _,Nat.le_refl _⟩
structure Wrote (B b:Nat) (bs:List Value) (w w':World):Prop where
  is:BuilderAtF tB tU B b (.pointer (some ⟨b,0,none⟩)) bs w'
  low:Below B w w'
  kept:OthersKept tU (some b) w w'
  size:w.heap.size<=w'.heap.size
set_option maxHeartbeats 1000000 in
set_option maxRecDepth 100000 in
theorem wstring_any (B b:Nat) (bs:List Value) (s:ByteArray) (w:World) (h:IsBuilderF tB tU B b bs w) (hlen:bs.length+s.size<=140737488355328) (hBw:B<=w.heap.size) :
    Calls Tryz.prog 122 #[.pointer (some ⟨b,0,none⟩),.string s] w fun e w'=>e = .returned (.tuple #[.int .i64 s.size,.nilIface])/\Wrote B b (bs ++ strCells s) w w':=by
  obtain ⟨i0,hi,hz0,hz1,hz2⟩:=info_parts infoU
  have HC:=Lib.hid (check_any B b bs w h)
  clear h
  go_enter Tryz.func122,Tryz.ntmps122
  go_wp2_with fail
  refine HC.out.mono ?_
  rintro e w1 ⟨rfl,h1,hb1,hk1,hs1⟩
  obtain ⟨hB,v,hbk,hown,hne⟩:=h1
  have c0:w1.cell? ⟨b,0,none⟩=some (.pointer (some ⟨b,0,none⟩)):=by rw [cell_of_heap hbk];rfl
  have c1:w1.cell? ⟨b,1,none⟩=some v:=by rw [cell_of_heap hbk];rfl
  go_wp2_with (at_builtin;refine wpList_append_own_stringF _ rfl _ _ 120 9 rfl B 5 i0 Tryz.underlying120 Tryz.underlying9 hi hz0 hz1 hz2 _ _ _ rfl hown s rfl ?c3 ?c4 ?c5 ?_)
  case c3=>unfold maxLen;omega
  case c4=>omega
  case c5=>omega
  intro v' w2 hown' hgrow _
  have hlt:b<w1.heap.size:=lt_of_block hbk
  have hb2:w2.heap[b]? = some (.cells #[.pointer (some ⟨b,0,none⟩),v] tB (0,0)):=by
    rw [hgrow.block b hlt (fun e=>hne e.symm)];exact hbk
  have d0:w2.cell? ⟨b,0,none⟩=some (.pointer (some ⟨b,0,none⟩)):=by rw [cell_of_heap hb2];rfl
  have d1:w2.cell? ⟨b,1,none⟩=some v:=by rw [cell_of_heap hb2];rfl
  have f1:w2.frozen? ⟨b,1,none⟩=false:=frozen_of_heap hb2 1
  obtain ⟨ao,n',cap,rfl⟩:∃ ao n' cap,v' = .slice ao n' cap:=by
    rcases hown'.2 with ⟨hv,_⟩ | ⟨g,cap,cur,fz,hv,_⟩
    · exact ⟨_,_,_,hv⟩
    · exact ⟨_,_,_,hv⟩
  go_wp2
  go_ret2
  refine ⟨rfl,?_,?_,(hk1.grown hgrow (ownsRowF_kind hown)).setCell ⟨b,1,none⟩ rfl _,?_⟩
  · exact BuilderAtF.put (T:=tB) (e:=tU) hB hb2 (bs':=bs ++ strCells s) (by simpa [strCells_length] using hown') (by decide)
  · exact (hb1.grown hgrow (by omega) (fun k hk=>(hown.lt k hk).1)).setCell (p:=⟨b,1,none⟩) hB _
  · have:=hgrow.size;simp [World.setCell];omega
set_option maxHeartbeats 1000000 in
set_option maxRecDepth 100000 in
theorem wbyte_any (B b:Nat) (bs:List Value) (c:Int) (w:World) (h:IsBuilderF tB tU B b bs w) (hlen:bs.length+1<=140737488355328) (hBw:B<=w.heap.size) :
    Calls Tryz.prog 123 #[.pointer (some ⟨b,0,none⟩),.int .u8 c] w fun e w'=>e = .returned .nilIface/\Wrote B b (bs ++ [.int .u8 c]) w w':=by
  obtain ⟨i0,hi,hz0,hz1,hz2⟩:=info_parts infoU
  have HC:=Lib.hid (check_any B b bs w h)
  clear h
  go_enter Tryz.func123,Tryz.ntmps123
  go_wp2_with fail
  refine HC.out.mono ?_
  rintro e w1 ⟨rfl,h1,hb1,hk1,hs1⟩
  obtain ⟨hB,v,hbk,hown,hne⟩:=h1
  have c0:w1.cell? ⟨b,0,none⟩=some (.pointer (some ⟨b,0,none⟩)):=by rw [cell_of_heap hbk];rfl
  have c1:w1.cell? ⟨b,1,none⟩=some v:=by rw [cell_of_heap hbk];rfl
  go_wp2_with (at_builtin;refine wpList_append_ownF _ rfl _ _ 120 rfl B 5 i0 (.int .u8 0) 1 1 Tryz.underlying120 hi hz0 hz1 hz2 rfl (by decide) _ _ _ rfl (hown.alloc _) ⟨w1.heap.size,0,none⟩ 1 1 [.int .u8 c] rfl rfl ?c1 ?c2 ?c3 ?c4 ?c5 ?_)
  case c1 =>
    intro j u hj
    match j,hj with
    | 0,hj=>simp at hj;subst hj;simp [Addr.add]
  case c2=>intro u hu;simp at hu;subst hu;rfl
  case c3=>unfold maxLen;omega
  case c4=>omega
  case c5=>simp;omega
  intro v' w2 hown' hgrow _
  have hlt:b<w1.heap.size:=lt_of_block hbk
  have hb2:w2.heap[b]? = some (.cells #[.pointer (some ⟨b,0,none⟩),v] tB (0,0)):=by
    rw [hgrow.block b (by simp;omega) (fun e=>hne e.symm),alloc_old w1 _ b hlt];exact hbk
  have d0:w2.cell? ⟨b,0,none⟩=some (.pointer (some ⟨b,0,none⟩)):=by rw [cell_of_heap hb2];rfl
  have d1:w2.cell? ⟨b,1,none⟩=some v:=by rw [cell_of_heap hb2];rfl
  have f1:w2.frozen? ⟨b,1,none⟩=false:=frozen_of_heap hb2 1
  obtain ⟨g,cap,rfl⟩:∃ g cap,v' = .slice (some ⟨g,0,none⟩) (bs.length+1) cap:=by
    rcases hown'.2 with ⟨_,h0⟩ | ⟨g,cap,cur,fz,hv,_⟩
    · omega
    · exact ⟨g,cap,hv⟩
  go_wp2
  go_ret
  refine ⟨rfl,?_,?_,((hk1.alloc _).grown hgrow (ownsRowF_kind (hown.alloc _))).setCell ⟨b,1,none⟩ rfl _,?_⟩
  · exact BuilderAtF.put (T:=tB) (e:=tU) hB hb2 (bs':=bs ++ [.int .u8 c]) (by simpa using hown') (by decide)
  · exact ((hb1.alloc (by omega) _).grown hgrow (by simp;omega) (fun k hk=>(hown.lt k hk).1)).setCell (p:=⟨b,1,none⟩) hB _
  · have:=hgrow.size;simp [World.setCell] at this ⊢;omega
end Go.Proofs.YtbkdappgmcebaaaGreatDoor.Prog
end
section
namespace Go.Proofs.YtbkdappgmcebaaaGreatDoor.Prog
open Go.RowKit Go.Proofs.YtbkdappgmcebaaaGreatDoor.Mem Go.Proofs.YtbkdappgmcebaaaGreatDoor.Expr Go.Lib
def modes:List (List UInt8):=[[],[112,108,110],[114,108,120],[97,99,113],[114,101,108],[97,114],[115,99]]
def ModeAt (w:World):Prop:=1<w.heap.size/\∀ i:Nat,i<7->w.cell? ⟨1,i,none⟩=some (.string (str (modeTxt i)))
theorem ModeAt.below {w w':World} (h:ModeAt w) (hb:Below w.heap.size w w'):ModeAt w' :=
  ⟨Nat.lt_of_lt_of_le h.1 hb.size,fun i hi=>(hb.cell (p:=⟨1,i,none⟩) h.1).trans (h.2 i hi)⟩
def All (w:World):Prop:=Tabs w/\ModeAt w
theorem All.below {w w':World} (h:All w) (hb:Below w.heap.size w w'):All w':=⟨h.1.below hb,h.2.below hb⟩
theorem modeTxt_none {m:Nat} (h:7<=m):modeTxt m=[]:=by
  unfold modeTxt;rw [List.getD_eq_getElem?_getD,List.getElem?_eq_none (by simp;omega)];rfl
theorem modeTxt_len (m:Nat):(modeTxt m).length<=3:=by
  by_cases h:7<=m
  · rw [modeTxt_none h];simp
  · obtain rfl | rfl | rfl | rfl | rfl | rfl | rfl:m=0 \/ m=1 \/ m=2 \/ m=3 \/ m=4 \/ m=5 \/ m=6:=by omega
    all_goals decide
theorem mode_any (m:Nat) (hm:m<256) (w:World) (hT:ModeAt w):Calls Tryz.prog 127 #[.int .u8 (m:Nat)] w fun e w'=>Made (.returned (.string (str (modeTxt m)))) w e w':=by
  by_cases h:7<=m
  · have i1:(7:Int)<=(m:Int):=by omega
    have HT:=Lib.hid (modeTxt_none h)
    clear h hT
    go_enter Tryz.func127,Tryz.ntmps127
    go_wp2_with fail
    go_ret
    exact ⟨by rw [HT.out];rfl,Below.refl _ _⟩
  · have hcell:=hT.2 m (by omega)
    have i1:(m:Int)<7:=by omega
    generalize modeTxt m=t at hcell ⊢
    clear h hT
    go_enter Tryz.func127,Tryz.ntmps127
    go_wp2_with fail
    go_ret
    exact ⟨rfl,Below.refl _ _⟩
theorem letter_any (x:Nat) (hx:x<256) (w:World):Calls Tryz.prog 63 #[.int .u8 (x:Nat)] w fun e w'=>Made (.returned (.string (str [x.toUInt8]))) w e w':=by
  have hcv:(convert 120 9 (.slice (some ⟨w.heap.size,0,none⟩) 1 1)).run Tryz.prog (w.alloc (.cells #[.int .u8 x] 5)) = .ok (.string (str [x.toUInt8])) (w.alloc (.cells #[.int .u8 x] 5)):=by
    refine run_convert_bytes_back (P:=Tryz.prog) (w.alloc (.cells #[.int .u8 x] 5)) 120 9 5 ⟨w.heap.size,0,none⟩ 1 [x.toUInt8] Tryz.underlying120 Tryz.underlying5 Tryz.underlying9 fun j hj=>?_
    obtain rfl:j=0:=by simpa using hj
    have e:((x.toUInt8.toNat:Nat):Int)=x:=by simp;omega
    show _=some (Value.int .u8 (x.toUInt8.toNat:Int))
    rw [e]
    exact (Sits.new w 5 #[.int .u8 x]).cell 0
  go_enter Tryz.func63,Tryz.ntmps63
  go_wp2_with fail
  go_ret
  exact ⟨rfl,(Below.refl _ _).alloc (Nat.le_refl _) _⟩
theorem itoa_more (n:Nat) (hn:n<1000000) (w:World) (hP:PowAt w):Calls Tryz.prog 165 #[.int .i64 (n:Nat)] w fun e w'=>Made (.returned (.string (str (dec n)))) w e w':=by
  refine (Tryz.strconv_Itoa (n:Int) (by omega) (by omega) w hP).mono ?_
  rintro e w' ⟨rfl,k,os,rfl⟩
  exact ⟨by unfold Lib.itoa;rw [if_neg (by omega)];rfl,below_grow _ _ (Nat.le_refl _) k os⟩
def stCells (m:Mk) (av bv tv ev:Value):List Value:=[.int .u8 m.kind,.int .u8 m.reg,.int .u8 m.mode,.int .u8 m.loc,av,bv,tv,ev]
def stAgg (m:Mk) (av bv tv ev:Value):Value:=.agg #[.int .u8 m.kind,.int .u8 m.reg,.int .u8 m.mode,.int .u8 m.loc,av,bv,tv,ev]
set_option maxRecDepth 100000 in
theorem register_st (m:Mk) (hr:m.reg<256) (av bv tv ev:Value) (w:World) (hP:PowAt w):Calls Tryz.prog 125 #[stAgg m av bv tv ev] w fun e w'=>Made (.returned (.string (str (114 :: dec m.reg)))) w e w':=by
  have HI:=Lib.hid (fun W (hb:Below w.heap.size w W)=>itoa_more m.reg (by omega) W (hP.below hb))
  have hl:=dec_len m.reg (by omega)
  have h1:∀ W,(Op.stringOp .add ⟨#[114]⟩ (str (dec m.reg))).run Tryz.prog W = .ok (.string (str (114 :: dec m.reg))) W:=fun W=>add_str [114] (dec m.reg) (by simp;omega) W
  obtain ⟨k,r,mo,x,a,b⟩:=m
  simp only at HI hl h1
  have i1:(r:Int)<256:=by simp only at hr;omega
  unfold stAgg
  simp only
  clear hP hl hr
  go_enter Tryz.func125,Tryz.ntmps125
  go_wp2_with fail
  refine (HI.out _ ((Below.refl _ _).alloc (Nat.le_refl _) _)).mono ?_
  rintro e w1 ⟨rfl,hb⟩
  have HB:=Lib.hid (Below.boxed _ _ hb);clear hb
  go_wp2_with fail
  go_ret
  exact ⟨rfl,HB.out⟩
def words (ws:List (List UInt8)):Array Value:=(ws.map fun x=>Value.string (str x)).toArray
def Words (w:World) (v:Value) (ws:List (List UInt8)):Prop:=∃ g,v = .slice (some ⟨g,0,none⟩) ws.length ws.length/\Sits w g 9 (words ws)
theorem words_at {ws:List (List UInt8)} {j:Nat} {x:List UInt8} (h:ws[j]? = some x):(words ws)[j]? = some (.string (str x)):=by
  simp [words,h]
def joined (ws:List (List UInt8)):List UInt8:=Lib.join ws [44,32]
theorem str_list (x:List UInt8):(str x).data.toList=x:=by simp [str]
theorem map_str (ws:List (List UInt8)):(ws.map str).map (·.data.toList)=ws:=by
  rw [List.map_map]
  conv=>rhs;rw [<- List.map_id ws]
  exact List.map_congr_left fun x _=>str_list x
theorem join_any (ws:List (List UInt8)) (v:Value) (w:World) (hv:Words w v ws) (hn:ws.length<=100) (hl:(joined ws).length<=1000000) :
    Calls Tryz.prog 166 #[v,.string (str [44,32])] w fun e w'=>Made (.returned (.string (str (joined ws)))) w e w':=by
  obtain ⟨g,rfl,hs⟩:=hv
  have h:=Tryz.strings_Join g 0 ws.length (ws.map str) (str [44,32]) w (fun j x hx=>by
    rw [List.getElem?_map] at hx
    obtain ⟨y,hy,rfl⟩:=Option.map_eq_some_iff.1 hx
    rw [Nat.zero_add,hs.cell,words_at hy]) hs.lt (by rw [List.length_map];omega) (by rw [List.length_map];omega) (by rw [map_str,str_list];unfold joined at hl;omega)
  rw [List.length_map,map_str,str_list] at h
  exact h
def callTxt (name:List UInt8) (ws:List (List UInt8)):List UInt8:=name ++ [40] ++ joined ws ++ [41,59]
theorem call_any (name:List UInt8) (hname:name.length<=100) (ws:List (List UInt8)) (v:Value) (w:World) (hv:Words w v ws) (hn:ws.length<=100) (hl:(joined ws).length<=1000000) :
    Calls Tryz.prog 126 #[.string (str name),v] w fun e w'=>Made (.returned (.string (str (callTxt name ws)))) w e w':=by
  have HJ:=Lib.hid (join_any ws v w hv hn hl)
  obtain ⟨g,rfl,hs⟩:=hv
  have h1:∀ W,(Op.stringOp .add (str name) ⟨#[40]⟩).run Tryz.prog W = .ok (.string (str (name ++ [40]))) W:=fun W=>add_str name [40] (by simp;omega) W
  have h2:∀ W,(Op.stringOp .add (str (name ++ [40])) (str (joined ws))).run Tryz.prog W = .ok (.string (str (name ++ [40] ++ joined ws))) W:=fun W=>add_str _ _ (by simp;omega) W
  have h3:∀ W,(Op.stringOp .add (str (name ++ [40] ++ joined ws)) ⟨#[41,59]⟩).run Tryz.prog W = .ok (.string (str (callTxt name ws))) W:=fun W=>add_str (name ++ [40] ++ joined ws) [41,59] (by simp;omega) W
  generalize callTxt name ws=cw at *
  generalize name ++ [40] ++ joined ws=n2 at h2 h3
  generalize name ++ [40]=n1 at h1 h2
  generalize joined ws=jw at *
  generalize ws.length=nw at *
  clear hs hn
  go_enter Tryz.func126,Tryz.ntmps126
  go_wp2_with fail
  refine HJ.out.mono ?_
  rintro e w1 ⟨rfl,hb⟩
  have HB:=Lib.hid hb;clear hb
  go_wp2_with fail
  go_ret
  exact ⟨rfl,HB.out⟩
structure Moved (b:Nat) (w w':World):Prop where
  kept:OthersKept tU (some b) w w'
  size:w.heap.size<=w'.heap.size
structure Bld (w0:World) (b:Nat) (l:List UInt8) (w:World):Prop where
  is:IsBuilderF tB tU w0.heap.size b (byteCells l) w
  low:Below w0.heap.size w0 w
section
variable {w0 w w' w'' : World} {b g : Nat} {t : TypeId} {cs : Array Value} {l : List UInt8}
theorem Moved.refl (b:Nat) (w:World):Moved b w w:=⟨OthersKept.refl _ _ _,Nat.le_refl _⟩
theorem Moved.trans (h:Moved b w w') (k:Moved b w' w''):Moved b w w'':=⟨h.kept.trans k.kept,Nat.le_trans h.size k.size⟩
theorem Moved.below (h:Below w.heap.size w w'):Moved b w w':=⟨fun k o hk _ _=>by
  have hlt:k<w.heap.size:=by
    rcases Nat.lt_or_ge k w.heap.size with h | h
    · exact h
    · rw [Array.getElem?_eq_none h] at hk;cases hk
  rw [h.block k hlt];exact hk,h.size⟩
theorem Bld.typed (h:Bld w0 b l w):∃ cs,Sits w b tB cs:=by
  rcases h.is with h | h <;> (obtain ⟨_,v,hb,_⟩:=h;exact ⟨_,hb⟩)
theorem Sits.moved (h:Sits w g t cs) (k:Moved b w w') (ht:t≠tU) (hg:g≠b):Sits w' g t cs :=
  k.kept g _ h (fun e=>hg (Option.some.inj e)) (fun c fz e=>ht (by injection e))
theorem Bld.far (h:Bld w0 b l w) (hs:Sits w g t cs) (ht:t≠tB):g≠b:=by
  obtain ⟨cs',hb⟩:=h.typed
  exact hs.differ hb ht
theorem Bld.grown (h:Bld w0 b l w) (hb:Below w.heap.size w w'):Bld w0 b l w':=by
  have key:∀ p,BuilderAtF tB tU w0.heap.size b p (byteCells l) w->BuilderAtF tB tU w0.heap.size b p (byteCells l) w':=fun p hp=>by
    have hlt:=hp.lt
    obtain ⟨hB,v,hbk,hown,hne⟩:=hp
    exact ⟨hB,v,(hb.block b hlt).trans hbk,hown.kept (row:=none) ⟨hb.os,hb.tape,hb.output,hb.size,fun k hk _=>hb.block k hk⟩ (by cases hv:v.ownBlock <;> simp),hne⟩
  exact ⟨h.is.elim (fun x => .inl (key _ x)) (fun x => .inr (key _ x)),h.low.trans (hb.mono h.low.size)⟩
theorem Bld.of_wrote {x:List UInt8} (h:Bld w0 b l w) (k:Wrote w0.heap.size b (byteCells l ++ byteCells x) w w'):Bld w0 b (l ++ x) w' /\ Moved b w w' :=
  ⟨⟨.inr (by rw [byteCells_append];exact k.is),h.low.trans k.low⟩,k.kept,k.size⟩
end
theorem wstr (w0:World) (b:Nat) (l x:List UInt8) (w:World) (h:Bld w0 b l w) (hlen:l.length+x.length<=140737488355328) :
    Calls Tryz.prog 122 #[.pointer (some ⟨b,0,none⟩),.string (str x)] w fun e w'=>∃ z,e = .returned (.tuple #[z,.nilIface])/\Bld w0 b (l ++ x) w' /\ Moved b w w':=by
  refine (wstring_any w0.heap.size b (byteCells l) (str x) w h.is (by rw [byteCells_length];exact hlen) h.low.size).mono ?_
  rintro e w' ⟨rfl,hw⟩
  rw [strCells_eq,str_list] at hw
  exact ⟨_,rfl,h.of_wrote hw⟩
theorem wline (w0:World) (b:Nat) (l:List UInt8) (w:World) (h:Bld w0 b l w) (hlen:l.length+1<=140737488355328) :
    Calls Tryz.prog 123 #[.pointer (some ⟨b,0,none⟩),.int .u8 10] w fun e w'=>e = .returned .nilIface/\Bld w0 b (l ++ [10]) w' /\ Moved b w w':=by
  refine (wbyte_any w0.heap.size b (byteCells l) 10 w h.is (by rw [byteCells_length];exact hlen) h.low.size).mono ?_
  rintro e w' ⟨rfl,hw⟩
  exact ⟨rfl,h.of_wrote (x:=[10]) hw⟩
structure Put (b d:Nat) (v:Value) (w:World):Prop where
  fn:∃ gb gm,v = .func (.func 121) #[] #[.pointer (some ⟨gb,0,none⟩),.pointer (some ⟨gm,0,none⟩)]/\Sits w gb 119 #[.pointer (some ⟨b,0,none⟩)]/\Sits w gm 9 #[.string (str (indent d))]
theorem indent_len (d:Nat):(indent d).length=2 * d:=by simp [indent]
theorem indent_repeat (d:Nat):Lib.repeatL [32,32] d=indent d:=by
  induction d with
  | zero=>rfl
  | succ d ih =>
    show [32,32] ++ Lib.repeatL [32,32] d=_
    rw [ih]
    unfold indent
    rw [show 2 * (d+1)=2+2 * d by omega,<- List.replicate_append_replicate];rfl
set_option maxRecDepth 100000 in
theorem linesOf_any (b d:Nat) (hd:d<=100) (w:World):Calls Tryz.prog 62 #[.pointer (some ⟨b,0,none⟩),.int .i64 (d:Nat)] w fun e w'=>∃ v,e = .returned v/\Put b d v w' /\ Below w.heap.size w w':=by
  have HR:=Lib.hid (fun W=>(show Calls _ _ #[.string ⟨#[32,32]⟩,.int .i64 (d:Nat)] W fun e w'=>Made (.returned (.string (str (indent d)))) W e w' from by
    have h:=Tryz.strings_Repeat (str [32,32]) d W (by omega) (by simp [str,ByteArray.size];omega)
    rw [str_list,indent_repeat] at h
    exact h))
  have i1:(d:Int)<=100:=by omega
  clear hd
  go_enter Tryz.func62,Tryz.ntmps62
  go_wp2_with fail
  refine (HR.out _).mono ?_
  rintro e w1 ⟨rfl,hb⟩
  have hlt:w.heap.size<w1.heap.size:=by have:=hb.size;simp at this;omega
  have S1:Sits w1 w.heap.size 119 #[.pointer (some ⟨b,0,none⟩)]:=(Sits.new w _ _).below hb (by simp)
  have HB:=Lib.hid (Below.boxed _ _ hb)
  have HS:=Lib.hid S1
  clear hb S1
  go_wp2_with fail
  go_ret
  refine ⟨_,rfl,⟨w.heap.size,w1.heap.size,rfl,HS.out.alloc _,Sits.new _ _ _⟩,HB.out.alloc HB.out.size _⟩
set_option maxRecDepth 100000 in
set_option maxHeartbeats 1000000 in
theorem line1_any (w0:World) (b d:Nat) (l:List UInt8) (ws:List (List UInt8)) (gb gm:Nat) (vw:Value) (w:World) (hB:Bld w0 b l w) (h1:Sits w gb 119 #[.pointer (some ⟨b,0,none⟩)]) (h2:Sits w gm 9 #[.string (str (indent d))])
    (hw:Words w vw ws) (hn:ws.length<=100) (hlen:l.length+(2 * d+ws.flatten.length+1)<=140737488355328) :
    Calls Tryz.prog 121 #[vw,.pointer (some ⟨gb,0,none⟩),.pointer (some ⟨gm,0,none⟩)] w fun e w'=>e = .returned (.tuple #[])/\Bld w0 b (l ++ line d ws.flatten) w' /\ Moved b w w':=by
  obtain ⟨g,rfl,hs⟩:=hw
  have il:=indent_len d
  have n1:=hB.far h1 (by decide)
  have n2:=hB.far h2 (by decide)
  have n3:=hB.far hs (by decide)
  have c1:=h1.cell 0
  have c2:=h2.cell 0
  have HW1:=Lib.hid (wstr w0 b l (indent d) w hB (by omega))
  have i1:(ws.length:Int)<=100:=by omega
  have HM:=Lib.hid h1
  have HM2:=Lib.hid hs
  have HLEN:=Lib.hid hlen
  have HIL:=Lib.hid il
  clear h1 h2 hs hB hlen il
  go_enter Tryz.func121,Tryz.ntmps121
  go_wp2_with fail
  refine HW1.out.mono ?_
  rintro e w1 ⟨z,rfl,hB1,hM1⟩
  have HB1:=Lib.hid hB1
  have HM1:=Lib.hid hM1
  have S1:=Lib.hid (Sits.moved HM.out hM1 (by decide) n1)
  have S2:=Lib.hid (Sits.moved HM2.out hM1 (by decide) n3)
  clear hB1 hM1 c1 c2
  go_wp2_with fail
  go_loopg [11] ws.length (fun g v11 wx=>∃ k,k<=ws.length/\g=ws.length - k/\v11 = .int .i64 (k:Nat)/\Hid (Bld w0 b (l ++ indent d ++ (ws.take k).flatten) wx)/\Hid (Moved b w1 wx))
  case atStart=>exact ⟨0,by omega,by omega,rfl,Lib.hid (by simpa using HB1.out),Lib.hid (Moved.refl _ _)⟩
  case round =>
    obtain ⟨k,hk,rfl,rfl,HBx,HMx⟩:=hrel
    have T1:=Sits.moved S1.out HMx.out (by decide) n1
    have T2:=Sits.moved S2.out HMx.out (by decide) n3
    have c1:=T1.cell 0
    have l1:=T1.lt
    have l2:=T2.lt
    by_cases hlt:k<ws.length
    · have i2:(k:Int)<(ws.length:Int):=by omega
      have hx:ws[k]? = some ws[k]:=List.getElem?_eq_getElem hlt
      have c2:wr.cell? ⟨g,k,none⟩=some (.string (str ws[k])):=by rw [T2.cell];exact words_at hx
      have HT:=Lib.hid (show (ws.take (k+1)).flatten=(ws.take k).flatten ++ ws[k] by rw [List.take_succ_eq_append_getElem hlt,List.flatten_append];simp)
      have hfl:(ws.take (k+1)).flatten.length<=ws.flatten.length:=by
        have:=congrArg (fun l=>l.flatten.length) (List.take_append_drop (k+1) ws)
        simp only [List.flatten_append,List.length_append] at this
        omega
      have HWx:=Lib.hid (wstr w0 b _ ws[k] wr HBx.out (by
        have:=HLEN.out;have:=HIL.out
        rw [HT.out,List.length_append] at hfl
        simp only [List.length_append];omega))
      clear T1 T2 hx hfl
      generalize ws[k]=x at c2 HT HWx
      go_wp2_with fail
      refine HWx.out.mono ?_
      rintro e w2 ⟨z,rfl,hB2,hM2⟩
      have HB2:=Lib.hid hB2
      have HM2':=Lib.hid (HMx.out.trans hM2)
      clear hB2 hM2
      go_wp2_with fail
      go_roundg (ws.length - (k+1))
      case measure=>omega
      case rel=>exact ⟨k+1,by omega,rfl,by go_num,Lib.hid (by rw [HT.out,<- List.append_assoc];exact HB2.out),HM2'⟩
    · obtain rfl:k=ws.length:=by omega
      have HWx:=Lib.hid (wline w0 b _ wr HBx.out (by
        have:=HLEN.out;have:=HIL.out
        rw [List.take_of_length_le (Nat.le_refl _)]
        simp only [List.length_append];omega))
      clear T1 T2
      go_wp2_with fail
      refine HWx.out.mono ?_
      rintro e w2 ⟨rfl,hB2,hM2⟩
      have HB2:=Lib.hid hB2
      have HM2':=Lib.hid (HM1.out.trans (HMx.out.trans hM2))
      clear hB2 hM2
      go_wp2_with fail
      go_end0
      exact ⟨rfl,by
        have h:=HB2.out
        rw [List.take_of_length_le (Nat.le_refl _)] at h
        simpa [line] using h,HM2'.out⟩
end Go.Proofs.YtbkdappgmcebaaaGreatDoor.Prog
end
section
namespace Go.Proofs.YtbkdappgmcebaaaGreatDoor.Prog
open Go.RowKit Go.Proofs.YtbkdappgmcebaaaGreatDoor.Mem Go.Proofs.YtbkdappgmcebaaaGreatDoor.Expr Go.Lib
def RowAt (U:Nat->Prop) (w:World) (v:Value) (n:Nat) (cs:List Value):Prop :=
  (n=0/\∃ p cap,v = .slice p 0 cap) \/ ∃ g o cap,v = .slice (some ⟨g,o,none⟩) n cap/\U g/\n<=1000000/\∀ j u,cs[j]? = some u->w.cell? ⟨g,o+j,none⟩=some u
def Holds (U:Nat->Prop) (w:World):Blk->List Value->Prop
  | .nil,cs=>cs=[]
  | .cons m t e r,cs=>∃ av bv tv ev ct ce cr,cs=stCells m av bv tv ev ++ cr/\Tree w (trO m.a) av/\Tree w (trO m.b) bv/\RowAt U w tv t.len ct/\Holds U w t ct/\RowAt U w ev e.len ce/\Holds U w e ce/\Holds U w r cr
def Stand (U:Nat->Prop) (w:World) (b:Blk) (v:Value):Prop:=∃ cs,RowAt U w v b.len cs/\Holds U w b cs
abbrev any_:Nat->Prop:=fun _=>True
section
variable {U X : Nat → Prop} {w w' : World} {v : Value} {n : Nat} {cs : List Value} {b : Blk}
theorem RowAt.len (h:RowAt U w v n cs):∃ p cap,v = .slice p n cap/\n<=1000000:=by
  rcases h with ⟨rfl,p,cap,hv⟩ | ⟨g,o,cap,hv,_,hn,_⟩
  · exact ⟨p,cap,hv,by omega⟩
  · exact ⟨_,cap,hv,hn⟩
theorem RowAt.wider (h:RowAt U w v n cs) (hx:∀ g,U g->X g):RowAt X w v n cs:=by
  rcases h with h | ⟨g,o,cap,hv,hg,h⟩
  · exact .inl h
  · exact .inr ⟨g,o,cap,hv,hx g hg,h⟩
theorem RowAt.keep (h:RowAt U w v n cs) (hk:∀ g,U g->∀ j u,w.cell? ⟨g,j,none⟩=some u->w'.cell? ⟨g,j,none⟩=some u):RowAt U w' v n cs:=by
  rcases h with h | ⟨g,o,cap,hv,hg,hn,h⟩
  · exact .inl h
  · exact .inr ⟨g,o,cap,hv,hg,hn,fun j u hu=>hk g hg _ _ (h j u hu)⟩
theorem Holds.wider (hx:∀ g,U g->X g):∀ {b:Blk} {cs:List Value},Holds U w b cs->Holds X w b cs:=by
  intro b
  induction b with
  | nil=>intro cs h;exact h
  | cons m t e r iht ihe ihr =>
    intro cs h
    obtain ⟨av,bv,tv,ev,ct,ce,cr,h1,h2,h3,h4,h5,h6,h7,h8⟩:=h
    exact ⟨av,bv,tv,ev,ct,ce,cr,h1,h2,h3,h4.wider hx,iht h5,h6.wider hx,ihe h7,ihr h8⟩
theorem Holds.keep (hs:Stable 171 w w') (hk:∀ g,U g->∀ j u,w.cell? ⟨g,j,none⟩=some u->w'.cell? ⟨g,j,none⟩=some u):∀ {b:Blk} {cs:List Value},Holds U w b cs->Holds U w' b cs:=by
  intro b
  induction b with
  | nil=>intro cs h;exact h
  | cons m t e r iht ihe ihr =>
    intro cs h
    obtain ⟨av,bv,tv,ev,ct,ce,cr,h1,h2,h3,h4,h5,h6,h7,h8⟩:=h
    exact ⟨av,bv,tv,ev,ct,ce,cr,h1,h2.stable hs,h3.stable hs,h4.keep hk,iht h5,h6.keep hk,ihe h7,ihr h8⟩
theorem cell_below (hb:Below w.heap.size w w'):∀ g,U g->∀ j u,w.cell? ⟨g,j,none⟩=some u->w'.cell? ⟨g,j,none⟩=some u :=
  fun g _ j _ h=>(hb.cell (p:=⟨g,j,none⟩) (World.block_lt_of_cell? _ _ h)).trans h
theorem Holds.below (h:Holds U w b cs) (hb:Below w.heap.size w w'):Holds U w' b cs:=h.keep (Stable.below hb) (cell_below hb)
theorem RowAt.below (h:RowAt U w v n cs) (hb:Below w.heap.size w w'):RowAt U w' v n cs:=h.keep (cell_below hb)
theorem Stand.below (h:Stand U w b v) (hb:Below w.heap.size w w'):Stand U w' b v:=by
  obtain ⟨cs,h1,h2⟩:=h
  exact ⟨cs,h1.below hb,h2.below hb⟩
theorem Stand.wider (h:Stand U w b v) (hx:∀ g,U g->X g):Stand X w b v:=by
  obtain ⟨cs,h1,h2⟩:=h
  exact ⟨cs,h1.wider hx,h2.wider hx⟩
theorem Stand.keep (h:Stand U w b v) (hs:Stable 171 w w') (hk:∀ g,U g->∀ j u,w.cell? ⟨g,j,none⟩=some u->w'.cell? ⟨g,j,none⟩=some u):Stand U w' b v:=by
  obtain ⟨cs,h1,h2⟩:=h
  exact ⟨cs,h1.keep hk,h2.keep hs hk⟩
end
def StAt (w:World) (g o:Nat) (m:Mk) (av bv tv ev:Value):Prop :=
  w.cell? ⟨g,o,none⟩=some (.int .u8 m.kind)/\w.cell? ⟨g,o+1,none⟩=some (.int .u8 m.reg)/\w.cell? ⟨g,o+2,none⟩=some (.int .u8 m.mode)/\w.cell? ⟨g,o+3,none⟩=some (.int .u8 m.loc) /\
    w.cell? ⟨g,o+4,none⟩=some av/\w.cell? ⟨g,o+5,none⟩=some bv/\w.cell? ⟨g,o+6,none⟩=some tv/\w.cell? ⟨g,o+7,none⟩=some ev
structure Rest (w:World) (g o n:Nat) (r:Blk) (k:Nat):Prop where
  len:k+r.len=n
  at_:∃ cs,Holds any_ w r cs/\∀ j u,cs[j]? = some u->w.cell? ⟨g,o+k * 8+j,none⟩=some u
theorem Stand.rest {w:World} {b:Blk} {v:Value} {U:Nat->Prop} (h:Stand U w b v) (hn:b.len≠0):∃ g o cap,v = .slice (some ⟨g,o,none⟩) b.len cap/\b.len<=1000000/\Rest w g o b.len b 0:=by
  obtain ⟨cs,h1,h2⟩:=h
  rcases h1 with ⟨h0,_⟩ | ⟨g,o,cap,hv,_,hl,hc⟩
  · exact absurd h0 hn
  · exact ⟨g,o,cap,hv,hl,by omega,cs,h2.wider (fun _ _=>trivial),fun j u hu=>by simpa using hc j u hu⟩
theorem Rest.next {w:World} {g o n k:Nat} {m:Mk} {t e r:Blk} (h:Rest w g o n (.cons m t e r) k):k<n/\Rest w g o n r (k+1)/\∃ av bv tv ev,StAt w g (o+k * 8) m av bv tv ev/\Tree w (trO m.a) av/\Tree w (trO m.b) bv/\Stand any_ w t tv/\Stand any_ w e ev:=by
  obtain ⟨h1,cs,h2,h3⟩:=h
  obtain ⟨av,bv,tv,ev,ct,ce,cr,rfl,ha,hb,hct,ht,hce,he,hr⟩:=h2
  simp only [Blk.len] at h1
  have at_:∀ j u,j<8->(stCells m av bv tv ev)[j]? = some u->w.cell? ⟨g,o+k * 8+j,none⟩=some u:=fun j u hj hu =>
    h3 j u (by rw [List.getElem?_append_left (by simp [stCells];omega)];exact hu)
  refine ⟨by omega,⟨by omega,cr,hr,fun j u hu=>?_⟩,av,bv,tv,ev,⟨at_ 0 _ (by omega) rfl,at_ 1 _ (by omega) rfl,at_ 2 _ (by omega) rfl,at_ 3 _ (by omega) rfl,at_ 4 _ (by omega) rfl,at_ 5 _ (by omega) rfl,at_ 6 _ (by omega) rfl,at_ 7 _ (by omega) rfl⟩,ha,hb,⟨ct,hct,ht⟩,⟨ce,hce,he⟩⟩
  have:=h3 (8+j) u (by rw [List.getElem?_append_right (by simp [stCells])];simpa [stCells] using hu)
  rw [show o+(k+1) * 8+j=o+k * 8+(8+j) by omega]
  exact this
theorem Stand.len {U:Nat->Prop} {w:World} {b:Blk} {v:Value} (h:Stand U w b v):∃ p cap,v = .slice p b.len cap/\b.len<=1000000:=by
  obtain ⟨cs,h1,_⟩:=h
  exact h1.len
def Rests (w:World) (p:Option Addr) (n:Nat) (r:Blk) (k:Nat):Prop:=k+r.len=n/\(r = .nil \/ ∃ g o,p=some ⟨g,o,none⟩/\Rest w g o n r k)
theorem Stand.rests {w:World} {b:Blk} {v:Value} {U:Nat->Prop} (h:Stand U w b v):∃ p cap,v = .slice p b.len cap/\b.len<=1000000/\Rests w p b.len b 0:=by
  by_cases hn:b.len=0
  · obtain ⟨p,cap,hv,hl⟩:=h.len
    exact ⟨p,cap,hv,hl,by omega,.inl (Blk.len_zero hn)⟩
  · obtain ⟨g,o,cap,hv,hl,hr⟩:=h.rest hn
    exact ⟨_,cap,hv,hl,by omega,.inr ⟨g,o,rfl,hr⟩⟩
theorem Rests.next {w:World} {p:Option Addr} {n k:Nat} {m:Mk} {t e r:Blk} (h:Rests w p n (.cons m t e r) k) :
    ∃ g o,p=some ⟨g,o,none⟩/\k<n/\Rests w p n r (k+1)/\∃ av bv tv ev,StAt w g (o+k * 8) m av bv tv ev/\Tree w (trO m.a) av/\Tree w (trO m.b) bv/\Stand any_ w t tv/\Stand any_ w e ev:=by
  obtain ⟨h1,h2⟩:=h
  rcases h2 with h2 | ⟨g,o,hp,hr⟩
  · cases h2
  · obtain ⟨hk,hr',h3⟩:=hr.next
    exact ⟨g,o,hp,hk,⟨hr'.len,.inr ⟨g,o,hp,hr'⟩⟩,h3⟩
theorem Blk.text_app (p b:Blk) (d:Nat) (hd:d<=8):(p.app b).text d=p.text d ++ b.text d:=by
  induction p with
  | nil=>rfl
  | cons m t e r _ _ ih =>
    have hn:¬ 8<d:=by omega
    simp only [Blk.app,Blk.text,if_neg hn,ih,List.append_assoc]
theorem Blk.text_deep (b:Blk) {d:Nat} (h:8<d):b.text d=[]:=by
  cases b with
  | nil=>rfl
  | cons m t e r=>simp only [Blk.text];rw [if_pos h]
theorem Blk.snoc_eq (p:Blk) (m:Mk) (t e:Blk):p.snoc m t e=p.app (.cons m t e .nil):=by
  have:=Blk.snoc_app p m t e .nil
  rwa [Blk.app_nil] at this
def ownTxt (m:Mk) (t e:Blk) (d:Nat):List UInt8:=(Blk.cons m t e .nil).text d
theorem Blk.text_snoc (p:Blk) (m:Mk) (t e:Blk) (d:Nat) (hd:d<=8):(p.snoc m t e).text d=p.text d ++ ownTxt m t e d:=by
  rw [Blk.snoc_eq,Blk.text_app _ _ _ hd];rfl
theorem own_8 {m:Mk} (t e:Blk) {d:Nat} (hd:d<=8) (hk:m.kind=8):ownTxt m t e d=line d (headOf m) ++ t.text (d+1) ++ (if e.len=0 then [] else line d elseTxt ++ e.text (d+1)) ++ line d [125]:=by
  unfold ownTxt;rw [text_cons t e .nil hd (by omega)];simp [tailOf,hk,Blk.text]
theorem own_9 {m:Mk} (t e:Blk) {d:Nat} (hd:d<=8) (hk:m.kind=9):ownTxt m t e d=line d (headOf m) ++ t.text (d+1) ++ line d [125]:=by
  unfold ownTxt;rw [text_cons t e .nil hd (by omega)];simp [tailOf,hk,Blk.text]
theorem own_flat {m:Mk} (t e:Blk) {d:Nat} (hd:d<=8) (hk:1<=m.kind/\m.kind<=7):ownTxt m t e d=line d (headOf m):=by
  unfold ownTxt;rw [text_cons t e .nil hd (by omega)];simp [tailOf,show m.kind≠8 by omega,show m.kind≠9 by omega,Blk.text]
theorem own_none {m:Mk} (t e:Blk) {d:Nat} (hk:¬ (1<=m.kind/\m.kind<=9)):ownTxt m t e d=[]:=by
  unfold ownTxt
  simp only [Blk.text]
  split
  · rfl
  · rw [if_neg (by omega),if_neg (by omega),if_neg (by omega)];rfl
theorem Blk.size_app (p b:Blk):(p.app b).size=p.size+b.size:=by
  induction p with
  | nil=>simp [Blk.app,Blk.size]
  | cons m t e r _ _ ih=>simp only [Blk.app,Blk.size,ih];omega
theorem Blk.fine_app {p b:Blk} (h:(p.app b).fine):b.fine:=by
  induction p with
  | nil=>exact h
  | cons m t e r _ _ ih=>exact ih h.2.2.2.2.2.2.2.2
theorem Blk.fine_left {p b:Blk} (h:(p.app b).fine):p.fine:=by
  induction p with
  | nil=>trivial
  | cons m t e r _ _ ih =>
    obtain ⟨h1,h2,h3,h4,h5,h6,h7,h8,h9⟩:=h
    exact ⟨h1,h2,h3,h4,h5,h6,h7,h8,ih h9⟩
theorem exO_len {a:Option Ex} (h:okO a):(exO a).length<=114660:=by
  cases a with
  | none=>simp [exO]
  | some e=>exact text_len12 e h.1 h.2
theorem head_len {m:Mk} (ha:okO m.a) (hb:okO m.b) (hr:m.reg<256):(headOf m).length<=230000:=by
  have h1:=exO_len ha
  have h2:=exO_len hb
  have h3:=modeTxt_len m.mode
  have h4:=dec_len m.reg (by omega)
  unfold headOf
  split <;> simp only [List.length_cons,List.length_append,List.length_nil] <;> omega
theorem Blk.text_len {b:Blk} (h:b.fine):∀ d,(b.text d).length<=240000 * b.size:=by
  induction b with
  | nil=>intro d;simp [Blk.text]
  | cons m t e r iht ihe ihr =>
    intro d
    obtain ⟨ha,hb,hr,hmo,hlo,hki,ht,he,hrr⟩:=h
    have h1:=head_len ha hb hr
    have h2:=iht ht (d+1)
    have h3:=ihe he (d+1)
    have h4:=ihr hrr d
    by_cases hd:8<d
    · simp only [Blk.text];rw [if_pos hd];simp
    · have hi:(indent d).length<=16:=by simp [indent];omega
      simp only [Blk.text,Blk.size]
      rw [if_neg hd]
      have hl:∀ s,(line d s).length<=17+s.length:=fun s=>by simp only [line,List.length_append,List.length_cons,List.length_nil];omega
      have l1:=hl (headOf m)
      have l2:=hl elseTxt
      have l3:=hl [125]
      have l4:elseTxt.length=8:=rfl
      simp only [List.length_cons,List.length_nil] at l3
      rw [List.length_append]
      split
      · simp only [List.length_append]
        split
        · simp only [List.length_nil];omega
        · simp only [List.length_append];omega
      · split
        · simp only [List.length_append];omega
        · split
          · omega
          · simp only [List.length_nil];omega
end Go.Proofs.YtbkdappgmcebaaaGreatDoor.Prog
end
