/- Part 5 of the proof: what is used of the texts ExprS, ExprT, ExprA. -/
import Derived.KernelRfl
import Derived.Lib.ItoaNum
import Derived.Test.YtbkdappgmcebaaaGreatDoorKA2
import Derived.Test.YtbkdappgmcebaaaGreatDoorKA3
import Derived.Test.YtbkdappgmcebaaaGreatDoorKA0
import Derived.Lib.ItoaMem
import Derived.Lib.ItoaLen
import Derived.Lib.AppendIntMem
section
namespace Go.Proofs.YtbkdappgmcebaaaGreatDoor.Expr
structure It where
  kind:Nat
  op:Nat
  n:Nat
  t:Nat
  i:Nat
  x:Nat
deriving DecidableEq
inductive Tr
  | nil
  | node (a:It) (l r:Tr)
deriving DecidableEq
inductive Ex
  | num (n:Nat)
  | reg (i:Nat)
  | of (t i:Nat)
  | loc (x:Nat)
  | one (op:Nat) (a:Ex)
  | two (op:Nat) (a b:Ex)
deriving DecidableEq
def Tr.isNil:Tr->Bool
  | .nil=>true
  | .node _ _ _=>false
def sides (op:Nat):Nat:=if 1<=op/\op<=12 then 2 else if op=13 \/ op=14 then 1 else 0
def leafOk (a:It):Bool :=
  if a.kind=0 then true
  else if a.kind=1 then decide (a.i<8)
  else if a.kind=2 then decide (a.t<4) && decide (a.i<8)
  else if a.kind=3 then decide (97<=a.x) && decide (a.x<=122) && decide (a.x≠114)
  else false
def bare (a:It) (l r:Tr):Bool :=
  (decide (a.op=0) || (a.kind == 4 || a.kind == 5)) && (decide (a.n=0) || a.kind == 0) && (decide (a.t=0) || a.kind == 2) && (decide (a.i=0) || (a.kind == 1 || a.kind == 2)) &&
    (decide (a.x=0) || a.kind == 3) && (l.isNil || (a.kind == 4 || a.kind == 5)) && (r.isNil || a.kind == 5)
def fitsF:Tr->Nat->Bool
  | .nil,_=>false
  | .node _ _ _,0=>false
  | .node a l r,room+1=>(if a.kind=4 then decide (sides a.op=1) && fitsF l room else if a.kind=5 then decide (sides a.op=2) && fitsF l room && fitsF r room else leafOk a) && bare a l r
def deepF:Tr->Nat->Nat
  | .nil,_=>0
  | .node _ _ _,0=>0
  | .node _ l r,m+1=>1+max (deepF l m) (deepF r m)
def treeOf:Ex->Tr
  | .num n => .node ⟨0,0,n,0,0,0⟩ .nil .nil
  | .reg i => .node ⟨1,0,0,0,i,0⟩ .nil .nil
  | .of t i => .node ⟨2,0,0,t,i,0⟩ .nil .nil
  | .loc x => .node ⟨3,0,0,0,0,x⟩ .nil .nil
  | .one op a => .node ⟨4,op,0,0,0,0⟩ (treeOf a) .nil
  | .two op a b => .node ⟨5,op,0,0,0,0⟩ (treeOf a) (treeOf b)
def Ex.depth:Ex->Nat
  | .one _ a=>a.depth+1
  | .two _ a b=>max a.depth b.depth+1
  | _=>1
def Ex.ok:Ex->Prop
  | .num n=>n<18446744073709551616
  | .reg i=>i<8
  | .of t i=>t<4/\i<8
  | .loc x=>97<=x/\x<=122/\x≠114
  | .one op a=>(op=13 \/ op=14)/\a.ok
  | .two op a b=>1<=op/\op<=12/\a.ok/\b.ok
theorem depth_pos (e:Ex):1<=e.depth:=by cases e <;> simp [Ex.depth]
theorem sides_one {op:Nat}:sides op=1 ↔ op=13 \/ op=14:=by
  unfold sides
  by_cases h:1<=op/\op<=12
  · rw [if_pos h];omega
  · rw [if_neg h]
    by_cases h2:op=13 \/ op=14
    · rw [if_pos h2];simp [h2]
    · rw [if_neg h2];simp [h2]
theorem sides_two {op:Nat}:sides op=2 ↔ 1<=op/\op<=12:=by
  unfold sides
  by_cases h:1<=op/\op<=12
  · rw [if_pos h];simp [h]
  · rw [if_neg h]
    by_cases h2:op=13 \/ op=14
    · rw [if_pos h2];simp [h]
    · rw [if_neg h2];simp [h]
theorem fits_of (e:Ex) (h:e.ok):∀ room,e.depth<=room->fitsF (treeOf e) room=true:=by
  induction e with
  | one op a ih =>
    intro room hr
    obtain ⟨m,rfl⟩:∃ m,room=m+1:=⟨room - 1,by simp only [Ex.depth] at hr;omega⟩
    have h1:sides op=1:=sides_one.2 h.1
    simp only [Ex.depth] at hr
    simp [treeOf,fitsF,bare,h1,ih h.2 m (by omega),Tr.isNil]
  | two op a b iha ihb =>
    intro room hr
    obtain ⟨m,rfl⟩:∃ m,room=m+1:=⟨room - 1,by simp only [Ex.depth] at hr;omega⟩
    have h1:sides op=2:=sides_two.2 ⟨h.1,h.2.1⟩
    simp only [Ex.depth] at hr
    simp [treeOf,fitsF,bare,h1,iha h.2.2.1 m (by omega),ihb h.2.2.2 m (by omega)]
  | num n =>
    intro room hr
    obtain ⟨m,rfl⟩:∃ m,room=m+1:=⟨room - 1,by simp only [Ex.depth] at hr;omega⟩
    simp [treeOf,fitsF,bare,leafOk,Tr.isNil]
  | reg i =>
    intro room hr
    obtain ⟨m,rfl⟩:∃ m,room=m+1:=⟨room - 1,by simp only [Ex.depth] at hr;omega⟩
    have h1:i<8:=h
    simp only [treeOf,fitsF,bare,leafOk,Tr.isNil]
    simpa using h1
  | of t i =>
    intro room hr
    obtain ⟨m,rfl⟩:∃ m,room=m+1:=⟨room - 1,by simp only [Ex.depth] at hr;omega⟩
    have h1:t<4/\i<8:=h
    simp only [treeOf,fitsF,bare,leafOk,Tr.isNil]
    simpa using h1
  | loc x =>
    intro room hr
    obtain ⟨m,rfl⟩:∃ m,room=m+1:=⟨room - 1,by simp only [Ex.depth] at hr;omega⟩
    have h1:97<=x/\x<=122/\x≠114:=h
    simp [treeOf,fitsF,bare,leafOk,Tr.isNil,h1]
theorem treeOf_inj:∀ (a b:Ex),treeOf a=treeOf b->a=b:=by
  intro a
  induction a with
  | num n=>intro b h;cases b <;> simp_all [treeOf]
  | reg n=>intro b h;cases b <;> simp_all [treeOf]
  | of n m=>intro b h;cases b <;> simp_all [treeOf]
  | loc n=>intro b h;cases b <;> simp_all [treeOf]
  | one op a ih =>
    intro b h
    cases b with
    | one op' a'=>simp only [treeOf,Tr.node.injEq,It.mk.injEq,true_and,and_true] at h;rw [h.1,ih a' h.2]
    | _=>simp [treeOf] at h
  | two op a b iha ihb =>
    intro c h
    cases c with
    | two op' a' b'=>simp only [treeOf,Tr.node.injEq,It.mk.injEq,true_and,and_true] at h;rw [h.1,iha a' h.2.1,ihb b' h.2.2]
    | _=>simp [treeOf] at h
theorem deepF_le:∀ (t:Tr) (m:Nat),deepF t m<=m:=by
  intro t
  induction t with
  | nil=>intro m;simp [deepF]
  | node a l r ihl ihr =>
    intro m
    cases m with
    | zero=>simp [deepF]
    | succ m=>have:=ihl m;have:=ihr m;simp only [deepF];omega
inductive Sp (l:List It):Nat->Ex->Nat->Prop
  | num {k a}:l[k]? = some a->a.kind=0->Sp l k (.num a.n) (k+1)
  | reg {k a}:l[k]? = some a->a.kind=1->a.i<8->Sp l k (.reg a.i) (k+1)
  | of {k a}:l[k]? = some a->a.kind=2->a.t<4->a.i<8->Sp l k (.of a.t a.i) (k+1)
  | loc {k a}:l[k]? = some a->a.kind=3->97<=a.x->a.x<=122->a.x≠114->Sp l k (.loc a.x) (k+1)
  | one {k a e m}:l[k]? = some a->a.kind=4->(a.op=13 \/ a.op=14)->Sp l (k+1) e m->Sp l k (.one a.op e) m
  | two {k a e f m j}:l[k]? = some a->a.kind=5->1<=a.op->a.op<=12->Sp l (k+1) e m->Sp l m f j->Sp l k (.two a.op e f) j
def sign (op:Nat):List UInt8 :=
  [[],[61,61],[33,61],[60],[60,61],[43],[45],[124],[94],[42],[47],[37],[38],[33],[45]].getD op []
def strongOp (op:Nat):Nat:=if 1<=op/\op<=4 then 1 else if 5<=op/\op<=8 then 2 else if 9<=op/\op<=12 then 3 else if op=13 \/ op=14 then 4 else 0
def Ex.strong:Ex->Nat
  | .one op _=>strongOp op
  | .two op _ _=>strongOp op
  | _=>5
def atLeast (n k:Nat) (s:List UInt8):List UInt8:=if k<n then 40 :: (s ++ [41]) else s
def dec (n:Nat):List UInt8:=Lib.decDigits n
def Ex.text:Ex->List UInt8
  | .num n=>dec n
  | .reg i=>114 :: dec i
  | .of t i=>dec t ++ 58 :: 114 :: dec i
  | .loc x=>[x.toUInt8]
  | .one op a=>sign op ++ atLeast (strongOp op) a.strong a.text
  | .two op a b=>atLeast (strongOp op) a.strong a.text ++ [32] ++ sign op ++ [32] ++ atLeast (strongOp op+1) b.strong b.text
def Ex.isLeaf:Ex->Bool
  | .one _ _=>false
  | .two _ _ _=>false
  | _=>true
end Go.Proofs.YtbkdappgmcebaaaGreatDoor.Expr
end
section
namespace Go.Proofs.YtbkdappgmcebaaaGreatDoor.Expr
def isDig (c:UInt8):Bool:=decide (48<=c.toNat) && decide (c.toNat<=57)
def spell (l:List UInt8):Nat:=l.foldl (fun n c=>10 * n+(c.toNat - 48)) 0
theorem dec_spell (n:Nat):(∀ c ∈ dec n,isDig c=true)/\spell (dec n)=n/\dec n ≠ []:=by
  induction n using Nat.strongRecOn with
  | ind n ih =>
    have one:∀ d,d<10->isDig (UInt8.ofNat (48+d))=true/\(UInt8.ofNat (48+d)).toNat - 48=d:=fun d hd=>by
      have e:(UInt8.ofNat (48+d)).toNat=48+d:=by rw [UInt8.toNat_ofNat'];omega
      refine ⟨?_,by rw [e];omega⟩
      unfold isDig;rw [e];simp;omega
    unfold dec
    rw [Lib.decDigits.eq_def]
    by_cases h:n<10
    · rw [dif_pos h]
      refine ⟨fun c hc=>?_,?_,by simp⟩
      · rw [List.mem_singleton] at hc;rw [hc];exact (one n h).1
      · show 10 * 0+((UInt8.ofNat (48+n)).toNat - 48)=n
        rw [(one n h).2];omega
    · rw [dif_neg h]
      obtain ⟨i1,i2,i3⟩:=ih (n / 10) (by omega)
      unfold dec at i1 i2 i3
      refine ⟨fun c hc=>?_,?_,by simp⟩
      · rcases List.mem_append.1 hc with hc | hc
        · exact i1 c hc
        · rw [List.mem_singleton] at hc;rw [hc];exact (one (n % 10) (by omega)).1
      · unfold spell at i2 ⊢
        rw [List.foldl_append,i2]
        show 10 * (n / 10)+((UInt8.ofNat (48+n % 10)).toNat - 48)=n
        rw [(one (n % 10) (by omega)).2];omega
def digits (l:List UInt8):List UInt8:=l.takeWhile isDig
theorem strong_pos {op:Nat} (h1:1<=op) (h2:op<=12):1<=strongOp op/\strongOp op<=3:=by
  unfold strongOp
  by_cases a:1<=op/\op<=4
  · rw [if_pos a];omega
  · rw [if_neg a]
    by_cases b:5<=op/\op<=8
    · rw [if_pos b];omega
    · rw [if_neg b,if_pos (by omega)];omega
theorem dec_cons (n:Nat):∃ c d,dec n=c :: d/\isDig c=true:=by
  obtain ⟨d1,d2,d3⟩:=dec_spell n
  cases hd:dec n with
  | nil=>exact absurd hd d3
  | cons c d=>exact ⟨c,d,rfl,d1 c (by rw [hd];exact List.mem_cons_self)⟩
theorem one_strong {op:Nat} (h:op=13 \/ op=14):strongOp op=4:=by rcases h with rfl | rfl <;> rfl
end Go.Proofs.YtbkdappgmcebaaaGreatDoor.Expr
end
section
namespace Go.Proofs.YtbkdappgmcebaaaGreatDoor.Expr
open Go.RowKit Go.Proofs.YtbkdappgmcebaaaGreatDoor.Mem Go.Lib
def str (l:List UInt8):ByteArray:=⟨l.toArray⟩
theorem itoa_any (i:Nat) (hi:i<100) (w:World) :
    Calls Tryz.prog 165 #[.int .i64 i] w fun e w'=>e = .returned (.string (str (dec i)))/\w=w' :=
  (Tryz.strconv_Itoa_small i hi w).mono fun _ _ h=>⟨h.1,h.2.symm⟩
theorem add_str {P:Program} (x y:List UInt8) (h:x.length+y.length<=9223372036854775807) (w:World):(Op.stringOp .add (str x) (str y)).run P w = .ok (.string (str (x ++ y))) w:=by
  rw [run_string_add_sum w _ _ (by simpa [str,ByteArray.size] using h)]
  congr 2
theorem dec_len (n:Nat) (h:n<18446744073709551616):(dec n).length<=20:=by
  unfold dec;rw [Lib.decDigits_length];exact Lib.nDigits_le20 n h
theorem register_any (i:Nat) (hi:i<8) (w:World) :
    Calls Tryz.prog 202 #[.int .u8 i] w fun e w'=>e = .returned (.string (str (114 :: dec i)))/\w=w':=by
  have hl:=dec_len i (by omega)
  have h1:∀ W,(Op.stringOp .add ⟨#[114]⟩ (str (dec i))).run Tryz.prog W = .ok (.string (str (114 :: dec i))) W:=fun W=>add_str [114] (dec i) (by simp;omega) W
  go_enter Tryz.func202,Tryz.ntmps202
  go_wp2_with (go_at_call 165;refine (itoa_any _ (by omega) _).mono ?_;rintro e w' ⟨rfl,rfl⟩)
  go_ret
  exact ⟨rfl,rfl⟩
def PowAt (w : World) : Prop := TabIs Tryz.prog w "internal/strconv.uint64pow10" .u64 pow10Tab
theorem PowAt.below {w w':World} (h:PowAt w) (hb:Below w.heap.size w w'):PowAt w':=tabBelow_of_tabIs h w' hb
set_option maxRecDepth 100000 in
set_option maxHeartbeats 3200000 in
theorem format_any (u:Nat) (hu64:u<18446744073709551616) (w:World) (hP:PowAt w) :
    Calls Tryz.prog 124 #[.int .u64 u,.int .i64 10] w fun e w'=>Made (.returned (.string (str (dec u)))) w e w':=by
  by_cases hu:u<100
  · have iu:(u:Int)<100:=by omega
    go_enter Tryz.func124,Tryz.ntmps124
    go_wp2_with (go_at_call 161;refine (Tryz.internal_strconv_small u hu _).mono ?_;rintro e w' ⟨rfl,rfl⟩)
    go_ret
    exact ⟨rfl,Below.refl _ _⟩
  · have hu1:1<=u:=by omega
    have hnd20:nDigits u<=20:=nDigits_le20 u hu64
    have hal:Tryz.prog.arrayLen 226=24:=by kernel_rfl
    have hsl:∀ W,(Instr.sliceAt 226 (.pointer (some ⟨w.heap.size,0,none⟩)) none (some (.int .i64 (nDigits u:Int))) none).run Tryz.prog W = .ok (.slice (some ⟨w.heap.size,0,none⟩) (nDigits u) 24) W:=fun W=>by
      rw [run_sliceAt_array_h W 226 ⟨w.heap.size,0,none⟩ (by kernel_rfl) .i64 (nDigits u:Int) (by omega) (by rw [hal];omega)]
      go_simp
    have hH0:=holds_zero0 w 226 (nDigits u) (by omega)
    have hfmt:=Tryz.internal_strconv_formatBase10 w.heap.size 0 24 u (Array.replicate (nDigits u) 0) (w.alloc (.cells zeros24 226)) hH0 (by rw [Array.size_replicate];exact lt_pow_nDigits u) hu64 (by rw [Array.size_replicate];omega)
    rw [Array.size_replicate] at hfmt
    have HH0:=Lib.hid hH0
    have HF:=Lib.hid hfmt
    have iu:(100:Int)<=(u:Int):=by omega
    clear hH0 hal hfmt
    go_enter Tryz.func124,Tryz.ntmps124
    go_wp2_with (go_at_call 162;refine (Tryz.internal_strconv_numDigits u hu1 hu64 _ (tabIs_alloc hP _)).mono ?_;rintro e w' ⟨rfl,rfl⟩)
    go_at_call 163
    refine HF.out.mono ?_
    rintro e w' ⟨rfl,k,v',dk,rfl,hF⟩
    have hcv:(convert 120 9 (.slice (some ⟨w.heap.size,0,none⟩) (nDigits u) 24)).run Tryz.prog ((Sort.putRow (fun (b:UInt8)=>Value.int .u8 (b.toNat:Int)) (w.alloc (.cells zeros24 226)) w.heap.size 0 dk).drewN k) = .ok (.string (str (dec u))) ((Sort.putRow (fun (b:UInt8)=>Value.int .u8 (b.toNat:Int)) (w.alloc (.cells zeros24 226)) w.heap.size 0 dk).drewN k):=by
      have h:=run_convert_bytes_back (P:=Tryz.prog) ((Sort.putRow (fun (b:UInt8)=>Value.int .u8 (b.toNat:Int)) (w.alloc (.cells zeros24 226)) w.heap.size 0 dk).drewN k) 120 9 5 ⟨w.heap.size,0,none⟩ 24 (decDigits u) Tryz.underlying120 Tryz.underlying5 Tryz.underlying9 (fun j hj=>by
        rw [row_is_numeral hF j hj,add_plain,World.cell?_drewN]
        exact Sort.cell?_putRow (fun (b:UInt8)=>Value.int .u8 (b.toNat:Int)) _ w.heap.size 0 _ dk HH0.out (by rw [hF.size,Array.size_replicate]) j (by rw [hF.size];rw [decDigits_length] at hj;exact hj))
      rw [decDigits_length] at h
      exact h
    have HB:Hid (Below w.heap.size w ((Sort.putRow (fun (b:UInt8)=>Value.int .u8 (b.toNat:Int)) (w.alloc (.cells zeros24 226)) w.heap.size 0 dk).drewN k)):=by
      obtain ⟨os,eo⟩:=fin_at w (.cells zeros24 226) dk k 0
      exact Lib.hid (by rw [eo];exact below_grow w.heap.size w (Nat.le_refl _) k os)
    clear HF
    generalize (Sort.putRow (fun (b:UInt8)=>Value.int .u8 (b.toNat:Int)) (w.alloc (.cells zeros24 226)) w.heap.size 0 dk).drewN k=W at hcv HB ⊢
    go_wp2_with fail
    go_ret
    exact ⟨rfl,HB.out⟩
theorem formatUint_any (u:Nat) (hu64:u<18446744073709551616) (w:World) (hP:PowAt w) :
    Calls Tryz.prog 64 #[.int .u64 u,.int .i64 10] w fun e w'=>Made (.returned (.string (str (dec u)))) w e w':=by
  go_enter Tryz.func64,Tryz.ntmps64
  go_wp2_with fail
  refine (format_any u hu64 _ hP).mono ?_
  rintro e w1 ⟨rfl,hb⟩
  go_wp2_with fail
  go_ret
  exact ⟨rfl,hb⟩
def Tabs (w:World):Prop:=Num.TextsAt w/\PowAt w
theorem Tabs.below {w w':World} (h:Tabs w) (hb:Below w.heap.size w w'):Tabs w':=⟨h.1.below hb,h.2.below hb⟩
def exprCells (a:It) (lv rv:Value):Array Value:=#[.int .u8 a.kind,.int .u8 a.op,.int .u64 a.n,.int .u8 a.t,.int .u8 a.i,.int .u8 a.x,lv,rv]
def leafIt:Ex->It
  | .num n=>⟨0,0,n,0,0,0⟩
  | .reg i=>⟨1,0,0,0,i,0⟩
  | .of t i=>⟨2,0,0,t,i,0⟩
  | .loc x=>⟨3,0,0,0,0,x⟩
  | .one op _=>⟨4,op,0,0,0,0⟩
  | .two op _ _=>⟨5,op,0,0,0,0⟩
def leafVal (e:Ex):Value:=.agg (exprCells (leafIt e) (.pointer none) (.pointer none))
theorem strength_any (op:Nat) (w:World) :
    Calls Tryz.prog 137 #[.int .u8 op] w fun e w'=>e = .returned (.int .i64 (strongOp op))/\w=w':=by
  by_cases h1:1<=op/\op<=4
  · have a1:(1:Int)<=(op:Int):=by omega
    have a2:(op:Int)<=4:=by omega
    have e:strongOp op=1:=by unfold strongOp;rw [if_pos h1]
    rw [e];clear e
    go_enter Tryz.func137,Tryz.ntmps137
    go_wp2
    go_ret
    exact ⟨rfl,rfl⟩
  by_cases h2:5<=op/\op<=8
  · have a1:(5:Int)<=(op:Int):=by omega
    have a2:(op:Int)<=8:=by omega
    have e:strongOp op=2:=by unfold strongOp;rw [if_neg h1,if_pos h2]
    rw [e];clear e
    go_enter Tryz.func137,Tryz.ntmps137
    go_wp2
    go_ret
    exact ⟨rfl,rfl⟩
  by_cases h3:9<=op/\op<=12
  · have a1:(9:Int)<=(op:Int):=by omega
    have a2:(op:Int)<=12:=by omega
    have e:strongOp op=3:=by unfold strongOp;rw [if_neg h1,if_neg h2,if_pos h3]
    rw [e];clear e
    go_enter Tryz.func137,Tryz.ntmps137
    go_wp2
    go_ret
    exact ⟨rfl,rfl⟩
  by_cases h13:op=13
  · subst h13
    go_enter Tryz.func137,Tryz.ntmps137
    go_wp2
    go_ret
    exact ⟨rfl,rfl⟩
  by_cases h14:op=14
  · subst h14
    go_enter Tryz.func137,Tryz.ntmps137
    go_wp2
    go_ret
    exact ⟨rfl,rfl⟩
  have e:strongOp op=0:=by unfold strongOp;rw [if_neg h1,if_neg h2,if_neg h3,if_neg (by omega)]
  rw [e];clear e
  have e1:((op:Int) == 13)=false:=beq_eq_false_iff_ne.2 (by omega)
  have e2:((op:Int) == 14)=false:=beq_eq_false_iff_ne.2 (by omega)
  by_cases hz:op=0
  · subst hz
    go_enter Tryz.func137,Tryz.ntmps137
    go_wp2
    go_ret
    exact ⟨rfl,rfl⟩
  · have a1:(14:Int)<(op:Int):=by omega
    go_enter Tryz.func137,Tryz.ntmps137
    go_wp2
    go_ret
    exact ⟨rfl,rfl⟩
theorem letters_num (n:Nat) (hn:n<18446744073709551616) (w:World) (hT:Tabs w) :
    Calls Tryz.prog 169 #[leafVal (.num n)] w fun e' w'=>Made (.returned (.string (str (dec n)))) w e' w':=by
  have hP:=(Tabs.below hT ((Below.refl _ w).alloc (Nat.le_refl _) (.cells #[.int .u8 0,.int .u8 0,.int .u64 n,.int .u8 0,.int .u8 0,.int .u8 0,.pointer none,.pointer none] 171))).2
  show Calls _ _ #[.agg #[.int .u8 0,.int .u8 0,.int .u64 n,.int .u8 0,.int .u8 0,.int .u8 0,.pointer none,.pointer none]] _ _
  go_enter Tryz.func169,Tryz.ntmps169
  go_wp2_with fail
  go_at_call 64
  refine (formatUint_any n hn _ hP).mono ?_
  rintro e w1 ⟨rfl,hb⟩
  go_wp2_with fail
  go_ret
  exact ⟨rfl,Below.boxed _ _ hb⟩
theorem letters_reg (i:Nat) (hi:i<8) (w:World) :
    Calls Tryz.prog 169 #[leafVal (.reg i)] w fun e' w'=>Made (.returned (.string (str (114 :: dec i)))) w e' w':=by
  show Calls _ _ #[.agg #[.int .u8 1,.int .u8 0,.int .u64 0,.int .u8 0,.int .u8 i,.int .u8 0,.pointer none,.pointer none]] _ _
  go_enter Tryz.func169,Tryz.ntmps169
  go_wp2_with (go_at_call 202;refine (register_any _ hi _).mono ?_;rintro e w' ⟨rfl,rfl⟩)
  go_ret
  exact ⟨rfl,(Below.refl _ _).alloc (Nat.le_refl _) _⟩
theorem letters_of (t i:Nat) (ht:t<4) (hi:i<8) (w:World) :
    Calls Tryz.prog 169 #[leafVal (.of t i)] w fun e' w'=>Made (.returned (.string (str (dec t ++ 58 :: 114 :: dec i)))) w e' w':=by
  have l1:=dec_len t (by omega)
  have l2:=dec_len i (by omega)
  have h1:∀ W,(Op.stringOp .add (str (dec t)) ⟨#[58]⟩).run Tryz.prog W = .ok (.string (str (dec t ++ [58]))) W:=fun W=>add_str (dec t) [58] (by simp;omega) W
  have h2:∀ W,(Op.stringOp .add (str (dec t ++ [58])) (str (114 :: dec i))).run Tryz.prog W = .ok (.string (str (dec t ++ [58] ++ 114 :: dec i))) W:=fun W=>add_str _ _ (by simp;omega) W
  clear l1 l2
  have hw:IntKind.i64.wrap (t:Int)=t:=IntWalk.i64_in _ (by omega)
  show Calls _ _ #[.agg #[.int .u8 2,.int .u8 0,.int .u64 0,.int .u8 t,.int .u8 i,.int .u8 0,.pointer none,.pointer none]] _ _
  go_enter Tryz.func169,Tryz.ntmps169
  go_wp2_with fail
  go_quiet ((first | (go_at_call 165;exact quiet_eq (itoa_any t (Nat.lt_trans ht (by decide)) _)) | (go_at_call 202;exact quiet_eq (register_any i hi _))))
  go_wp2
  go_ret
  exact ⟨rfl,drewN_below ((Below.refl _ _).alloc (Nat.le_refl _) _) _⟩
theorem encode_letter (x:Nat) (hx:97<=x/\x<=122):Utf8.encode x=str [x.toUInt8]:=by
  have h:∀ y:Fin 26,Utf8.encode ((97+y.val:Nat):Int)=str [(97+y.val).toUInt8]:=by decide +kernel
  have:=h ⟨x - 97,by omega⟩
  simp only at this
  rw [show 97+(x - 97)=x by omega] at this
  exact this
theorem letters_loc (x:Nat) (hx:97<=x/\x<=122) (w:World) :
    Calls Tryz.prog 169 #[leafVal (.loc x)] w fun e' w'=>Made (.returned (.string (str [x.toUInt8]))) w e' w':=by
  have HE:=Lib.hid (encode_letter x hx)
  show Calls _ _ #[.agg #[.int .u8 3,.int .u8 0,.int .u64 0,.int .u8 0,.int .u8 0,.int .u8 x,.pointer none,.pointer none]] _ _
  go_enter Tryz.func169,Tryz.ntmps169
  go_wp2_with fail
  go_ret
  exact ⟨ret_str HE.out,(Below.refl _ _).alloc (Nat.le_refl _) _⟩
theorem letters_any (e:Ex) (hl:e.isLeaf=true) (ho:e.ok) (w:World) (hT:Tabs w) :
    Calls Tryz.prog 169 #[leafVal e] w fun e' w'=>Made (.returned (.string (str e.text))) w e' w':=by
  cases e with
  | one op a=>cases hl
  | two op a b=>cases hl
  | num n=>exact letters_num n ho w hT
  | reg i=>exact letters_reg i ho w
  | of t i=>exact letters_of t i ho.1 ho.2 w
  | loc x=>exact letters_loc x ⟨ho.1,ho.2.1⟩ w
theorem atLeast_any (l:List UInt8) (k n:Nat) (hl:l.length<=1000000) (w:World) :
    Calls Tryz.prog 172 #[.agg #[.string (str l),.int .i64 k],.int .i64 n] w fun e' w'=>Made (.returned (.string (str (atLeast n k l)))) w e' w':=by
  by_cases h:k<n
  · have e:atLeast n k l=40 :: (l ++ [41]):=by unfold atLeast;rw [if_pos h]
    rw [e];clear e
    have h1:∀ W,(Op.stringOp .add ⟨#[40]⟩ (str l)).run Tryz.prog W = .ok (.string (str (40 :: l))) W:=fun W=>add_str [40] l (by simp;omega) W
    have h2:∀ W,(Op.stringOp .add (str (40 :: l)) ⟨#[41]⟩).run Tryz.prog W = .ok (.string (str (40 :: (l ++ [41])))) W:=fun W=>add_str (40 :: l) [41] (by simp;omega) W
    have i1:(k:Int)<(n:Int):=by omega
    clear hl
    go_enter Tryz.func172,Tryz.ntmps172
    go_wp2_with fail
    go_ret
    exact ⟨rfl,(Below.refl _ _).alloc (Nat.le_refl _) _⟩
  · have e:atLeast n k l=l:=by unfold atLeast;rw [if_neg h]
    rw [e];clear e
    have i1:(n:Int)<=(k:Int):=by omega
    go_enter Tryz.func172,Tryz.ntmps172
    go_wp2_with fail
    go_ret
    exact ⟨rfl,(Below.refl _ _).alloc (Nat.le_refl _) _⟩
theorem sidesF_nat (op:Nat):Num.sidesF (op:Int)=(sides op:Nat):=by
  unfold Num.sidesF sides
  by_cases h:1<=op/\op<=12
  · rw [if_pos h,if_pos (by omega)];rfl
  · rw [if_neg h,if_neg (by omega)]
    by_cases h2:op=13 \/ op=14
    · rw [if_pos h2,if_pos (by omega)];rfl
    · rw [if_neg h2,if_neg (by omega)];rfl
theorem sides_nat (op:Nat) (w:World):Calls Tryz.prog 171 #[.int .u8 op] w fun e w'=>e = .returned (.int .i64 (sides op:Nat))/\w=w':=by
  rw [<- sidesF_nat];exact Num.sides_any op w
end Go.Proofs.YtbkdappgmcebaaaGreatDoor.Expr
end
