/- Part 15 of the proof: what is used of the texts PrsS, PrsA, PrsB. -/
import Derived.Test.YtaanhmndeobgbaaGreatDoorGA1
import Derived.Test.YtaanhmndeobgbaaGreatDoorGB0
import Derived.Test.YtaanhmndeobgbaaGreatDoorGB1
import Derived.Test.YtaanhmndeobgbaaGreatDoorGA7
import Derived.Laws.Tables
import Derived.Test.YtaanhmndeobgbaaGreatDoorGB3
set_option maxRecDepth 100000
set_option maxHeartbeats 1000000
namespace Go.Proofs.YtaanhmndeobgbaaGreatDoor.fT
open Go.Proofs.YtaanhmndeobgbaaGreatDoor.Expr Prog
open Lex (Tok)
inductive Out (α:Type)
 | ok (a:α) (k:Nat)
 | bad (j e:Nat)
def Out.map {α β:Type} (f:α->β):Out α->Out β
 | .ok a k => .ok (f a) k
 | .bad j e => .bad j e
def Out.bind {α β:Type} (o:Out α) (f:α->Nat->Out β):Out β :=
 match o with
 | .ok a k=>f a k
 | .bad j e => .bad j e
def tk (ts:List Lex.Tok) (k:Nat):Lex.Tok:=ts.getD k ⟨0,[],0,0,0⟩
def aj (ts:List Lex.Tok) (k:Nat):List UInt8:=(tk ts k).text
def au (ts:List Lex.Tok) (k:Nat):Nat:=(tk ts k).kind
def mE (n:Nat) (s:List UInt8):Nat:=(([1,2,3,4,5,6,7,8,9,10,11,12,13,14]:List Nat).find? fun op=>decide (sides op=n) && decide (sign op=s)).getD 0
def qw (ts:List Lex.Tok) (k:Nat):Nat:=mE 1 (aj ts k)
def iH (ts:List Lex.Tok) (k:Nat):Nat:=mE 2 (aj ts k)
def iy (s:List UInt8):Option Nat:=match s with
 | [a,d]=>if a=114/\48<=d.toNat/\d.toNat<=55 then some (d.toNat - 48) else none
 | _=>none
def nK (s:List UInt8):Option Nat:=match s with
 | [c]=>if c=114 then none else some c.toNat
 | _=>none
def jF {α:Type} (ts:List Lex.Tok) (f:List UInt8->Option α) (k:Nat):Out α :=
 if au ts k=2 then match f (aj ts k) with
  | some a => .ok a (k+1)
  | none => .bad k 7
 else .bad k 3
def gy (ts:List Lex.Tok) (k:Nat):Out Nat:=jF ts iy k
def jo (ts:List Lex.Tok) (k:Nat):Out Nat:=jF ts nK k
def ak (ts:List Lex.Tok) (s:List UInt8) (k:Nat):Out Unit:=if aj ts k=s then .ok () (k+1) else .bad k 3
def aT (ts:List Lex.Tok) (k:Nat):Nat:=(tk ts k).num
def fo (ts:List Lex.Tok) (ask:Bool) (k:Nat):Out Ex :=
 if ask then
  if au ts k=1 then
   if aj ts (k+1)=[58] then if aT ts k<4 then (gy ts (k+2)).map (.of (aT ts k)) else .bad k 7
   else .ok (.num (aT ts k)) (k+1)
  else (jo ts k).map .loc
 else if au ts k=1 then .ok (.num (aT ts k)) (k+1) else (gy ts k).map .reg
def Out.close (ts:List Lex.Tok) {α:Type} (o:Out α):Out α:=o.bind fun a k=>(ak ts [41] k).map fun _=>a
inductive Gl
 | part (o:Nat)
 | ops (o least:Nat)
 | loop (o least:Nat) (e:Ex)
inductive Px (ts:List Lex.Tok) (ask:Bool):Gl->Nat->Out Ex->Prop
 | leaf {o k:Nat}:qw ts k=0->aj ts k ≠ [40]->Px ts ask (.part o) k (fo ts ask k)
 | deep {o k:Nat}:qw ts k≠0 \/ aj ts k=[40]->o=12->Px ts ask (.part o) k (.bad k 4)
 | sign {o k:Nat} {out:Out Ex}:qw ts k≠0->o≠12->Px ts ask (.part (o+1)) (k+1) out->Px ts ask (.part o) k (out.map (.one (qw ts k)))
 | paren {o k:Nat} {out:Out Ex}:qw ts k=0->aj ts k=[40]->o≠12->Px ts ask (.ops (o+1) 1) (k+1) out->Px ts ask (.part o) k (out.close ts)
 | first {o least k k1:Nat} {e:Ex} {out:Out Ex}:Px ts ask (.part o) k (.ok e k1)->Px ts ask (.loop o least e) k1 out->Px ts ask (.ops o least) k out
 | jU {o least k j er:Nat}:Px ts ask (.part o) k (.bad j er)->Px ts ask (.ops o least) k (.bad j er)
 | stop {o least k:Nat} {e:Ex}:ai (iH ts k)<least->Px ts ask (.loop o least e) k (.ok e k)
 | go {o least k k2:Nat} {e r:Ex} {out:Out Ex}:least<=ai (iH ts k)->Px ts ask (.ops o (ai (iH ts k)+1)) (k+1) (.ok r k2)->Px ts ask (.loop o least (.two (iH ts k) e r)) k2 out->Px ts ask (.loop o least e) k out
 | oO {o least k j er:Nat} {e:Ex}:least<=ai (iH ts k)->Px ts ask (.ops o (ai (iH ts k)+1)) (k+1) (.bad j er)->Px ts ask (.loop o least e) k (.bad j er)
theorem Px.CG {ts:List Lex.Tok} {ask:Bool} {g:Gl} {k:Nat} {a:Out Ex} (h:Px ts ask g k a):∀ {b:Out Ex},Px ts ask g k b->a=b:=by
 induction h with
 | leaf h1 h2 =>
  intro b hb;cases hb with
  | leaf _ _=>rfl
  | deep h3 _=>exact absurd h3 (by simp [h1,h2])
  | sign h3 _ _=>exact absurd h1 h3
  | paren _ h3 _ _=>exact absurd h3 h2
 | deep h1 h2 =>
  intro b hb;cases hb with
  | leaf h3 h4=>rcases h1 with h1 | h1 <;> contradiction
  | deep _ _=>rfl
  | sign _ h3 _=>exact absurd h2 h3
  | paren _ _ h3 _=>exact absurd h2 h3
 | sign h1 h2 _ ih =>
  intro b hb;cases hb with
  | leaf h3 _=>exact absurd h3 h1
  | deep _ h3=>exact absurd h3 h2
  | sign _ _ h3=>rw [ih h3]
  | paren h3 _ _ _=>exact absurd h3 h1
 | paren h1 h2 h3 _ ih =>
  intro b hb;cases hb with
  | leaf _ h4=>exact absurd h2 h4
  | deep _ h4=>exact absurd h4 h3
  | sign h4 _ _=>exact absurd h1 h4
  | paren _ _ _ h4=>rw [ih h4]
 | first _ _ ih1 ih2 =>
  intro b hb;cases hb with
  | first h3 h4 =>
   have:=ih1 h3;injection this with e1 e2;subst e1 e2;exact ih2 h4
  | jU h3=>cases ih1 h3
 | jU _ ih =>
  intro b hb;cases hb with
  | first h3 h4=>cases ih h3
  | jU h3=>exact ih h3
 | stop h1 =>
  intro b hb;cases hb with
  | stop _=>rfl
  | go h2 _ _=>omega
  | oO h2 _=>omega
 | go h1 _ _ ih1 ih2 =>
  intro b hb;cases hb with
  | stop h2=>omega
  | go _ h3 h4 =>
   have:=ih1 h3;injection this with e1 e2;subst e1 e2;exact ih2 h4
  | oO _ h3=>cases ih1 h3
 | oO h1 _ ih =>
  intro b hb;cases hb with
  | stop h2=>omega
  | go _ h3 h4=>cases ih h3
  | oO _ h3=>exact ih h3
def pO (k:Nat):Out Ex->Out Ex
 | .ok e k'=>if 12<e.depth then .bad k 4 else .ok e k'
 | .bad j e => .bad j e
open Classical in
noncomputable def bG (ts:List Lex.Tok) (ask:Bool) (k:Nat):Out Ex:=if h:∃ out,Px ts ask (.ops 0 1) k out then pO k h.choose else .bad k 0
theorem mF {ts:List Lex.Tok} {ask:Bool} {k:Nat} {out:Out Ex} (h:Px ts ask (.ops 0 1) k out):bG ts ask k=pO k out:=by
 have hx:∃ out,Px ts ask (.ops 0 1) k out:=⟨out,h⟩
 unfold bG;rw [dif_pos hx,hx.choose_spec.CG h]
def ui (k:Nat):List Nat:=if k=2 then [1,2,3] else if k=3 then [1,2,4] else if k=4 \/ k=5 \/ k=6 then [2,3,4,5] else if k=7 then [3,4,5,6] else []
def jc (ts:List Lex.Tok) (kind k:Nat):Out Nat:=jF ts (fun s=>(ui kind).find? fun m=>decide (aH m=s)) k
noncomputable def bJ (ts:List Lex.Tok) (kind reg k:Nat):Out Mk :=
 (ak ts [40] k).bind fun _ k =>
 (if kind=7 then .ok 0 k else (jo ts k).bind fun x k=>(ak ts [44] k).map fun _=>x).bind fun x k =>
 (if kind=7 \/ kind=2 then .ok none k else (bG ts false k).bind fun a k=>(ak ts [44] k).map fun _=>some a).bind fun a k =>
 (if kind=6 then (bG ts false k).bind fun b k=>(ak ts [44] k).map fun _=>some b else .ok none k).bind fun b k =>
 (jc ts kind k).bind fun m k=>(ak ts [41] k).bind fun _ k=>(ak ts [59] k).map fun _=>⟨kind,reg,m,x,a,b⟩
def nM:List UInt8:=[105,110,105,116]
def eT:List UInt8:=[116,104,114,101,97,100]
def fC:List UInt8:=[101,120,105,115,116,115]
def dX:List UInt8:=[102,111,114,97,108,108]
def uj:List UInt8:=[105,102]
def jd:List UInt8:=[101,108,115,101]
def eB:List UInt8:=[119,104,105,108,101]
def rq:List UInt8:=[115,116,111,114,101]
def ru:List UInt8:=[102,101,110,99,101]
def uZ:List UInt8:=[108,111,97,100]
def xM:List UInt8:=[115,119,97,112]
def GL:List UInt8:=[97,100,100]
def Kq:List UInt8:=[99,97,115]
noncomputable def qD (ts:List Lex.Tok) (r k:Nat):Out Mk :=
 if aj ts k=uZ then bJ ts 2 r (k+1)
 else if aj ts k=xM then bJ ts 4 r (k+1)
 else if aj ts k=GL then bJ ts 5 r (k+1)
 else if aj ts k=Kq then bJ ts 6 r (k+1)
 else (bG ts false k).bind fun a k=>(ak ts [59] k).map fun _=>⟨1,r,0,0,some a,none⟩
noncomputable def bH (ts:List Lex.Tok) (k:Nat):Out Mk :=
 if aj ts k=rq then bJ ts 3 0 (k+1)
 else if aj ts k=ru then bJ ts 7 0 (k+1)
 else (gy ts k).bind fun r k=>(ak ts [61] k).bind fun _ k=>qD ts r k
noncomputable def iA (ts:List Lex.Tok) (k:Nat):Out Ex:=(ak ts [40] k).bind fun _ k=>(bG ts false k).bind fun a k=>(ak ts [41] k).map fun _=>a
inductive Gb
 | block (d:Nat)
 | more (d:Nat) (q:az)
 | stmt (d:Nat)
inductive Bx (ts:List Lex.Tok):Gb->Nat->Out az->Prop
 | none {d k:Nat}:aj ts k ≠ [123]->Bx ts (.block d) k (.bad k 3)
 | deep {d k:Nat}:aj ts k=[123]->8<d->Bx ts (.block d) k (.bad k 4)
 | block {d k:Nat} {out:Out az}:aj ts k=[123]->d<=8->Bx ts (.more d .nil) (k+1) out->Bx ts (.block d) k out
 | close {d k:Nat} {q:az}:aj ts k=[125]->Bx ts (.more d q) k (.ok q (k+1))
 | step {d k k1:Nat} {q t e:az} {m:Mk} {out:Out az}:aj ts k ≠ [125]->Bx ts (.stmt d) k (.ok (.cons m t e .nil) k1)->Bx ts (.more d (q.snoc m t e)) k1 out->Bx ts (.more d q) k out
 | nN {d k j er:Nat} {q:az}:aj ts k ≠ [125]->Bx ts (.stmt d) k (.bad j er)->Bx ts (.more d q) k (.bad j er)
 | flat {d k:Nat}:aj ts k≠uj->aj ts k≠eB->Bx ts (.stmt d) k ((bH ts k).map fun m => .cons m .nil .nil .nil)
 | gJ {d k j er:Nat}:aj ts k=uj \/ aj ts k=eB->iA ts (k+1) = .bad j er->Bx ts (.stmt d) k (.bad j er)
 | gK {d k k1 j er:Nat} {a:Ex}:aj ts k=uj \/ aj ts k=eB->iA ts (k+1) = .ok a k1->Bx ts (.block (d+1)) k1 (.bad j er)->Bx ts (.stmt d) k (.bad j er)
 | loop {d k k1 k2:Nat} {a:Ex} {t:az}:aj ts k=eB->iA ts (k+1) = .ok a k1->Bx ts (.block (d+1)) k1 (.ok t k2)->Bx ts (.stmt d) k (.ok (.cons ⟨9,0,0,0,some a,none⟩ t .nil .nil) k2)
 | cond {d k k1 k2:Nat} {a:Ex} {t:az}:aj ts k=uj->iA ts (k+1) = .ok a k1->Bx ts (.block (d+1)) k1 (.ok t k2)->aj ts k2≠jd->Bx ts (.stmt d) k (.ok (.cons ⟨8,0,0,0,some a,none⟩ t .nil .nil) k2)
 | other {d k k1 k2:Nat} {a:Ex} {t:az} {out:Out az}:aj ts k=uj->iA ts (k+1) = .ok a k1->Bx ts (.block (d+1)) k1 (.ok t k2)->aj ts k2=jd->Bx ts (.block (d+1)) (k2+1) out ->
   Bx ts (.stmt d) k (out.map fun e => .cons ⟨8,0,0,0,some a,none⟩ t e .nil)
theorem kS:uj≠eB:=by decide
theorem Bx.CG {ts:List Lex.Tok} {g:Gb} {k:Nat} {a:Out az} (h:Bx ts g k a):∀ {b:Out az},Bx ts g k b->a=b:=by
 have iw:=kS;induction h with
 | none h1=>intro b hb;cases hb <;> first | rfl | contradiction
 | deep h1 h2=>intro b hb;cases hb <;> first | rfl | contradiction | omega
 | block h1 h2 _ ih =>
  intro b hb;cases hb with
  | none h3=>contradiction
  | deep _ h3=>omega
  | block _ _ h3=>exact ih h3
 | close h1=>intro b hb;cases hb <;> first | rfl | contradiction
 | step h1 _ _ ih1 ih2 =>
  intro b hb;cases hb with
  | close h2=>contradiction
  | step _ h3 h4 =>
   have:=ih1 h3;injection this with e1 e2;injection e1 with e3 e4 e5;subst e2 e3 e4 e5;exact ih2 h4
  | nN _ h3=>cases ih1 h3
 | nN h1 _ ih =>
  intro b hb;cases hb with
  | close h2=>contradiction
  | step _ h3 h4=>cases ih h3
  | nN _ h3=>exact ih h3
 | flat h1 h2 =>
  intro b hb;cases hb with
  | flat _ _=>rfl
  | gJ h3 _=>rcases h3 with h3 | h3 <;> contradiction
  | gK h3 _ _=>rcases h3 with h3 | h3 <;> contradiction
  | loop h3 _ _=>contradiction
  | cond h3 _ _ _=>contradiction
  | other h3 _ _ _ _=>contradiction
 | gJ h1 h2 =>
  intro b hb;cases hb with
  | flat h3 h4=>rcases h1 with h1 | h1 <;> contradiction
  | gJ _ h3=>rw [h2] at h3;cases h3;rfl
  | gK _ h3 _=>rw [h2] at h3;cases h3
  | loop _ h3 _=>rw [h2] at h3;cases h3
  | cond _ h3 _ _=>rw [h2] at h3;cases h3
  | other _ h3 _ _ _=>rw [h2] at h3;cases h3
 | gK h1 h2 _ ih =>
  intro b hb;cases hb with
  | flat h3 h4=>rcases h1 with h1 | h1 <;> contradiction
  | gJ _ h3=>rw [h2] at h3;cases h3
  | gK _ h3 h4=>rw [h2] at h3;cases h3;exact ih h4
  | loop _ h3 h4=>rw [h2] at h3;cases h3;cases ih h4
  | cond _ h3 h4 _=>rw [h2] at h3;cases h3;cases ih h4
  | other _ h3 h4 _ _=>rw [h2] at h3;cases h3;cases ih h4
 | loop h1 h2 _ ih =>
  intro b hb;cases hb with
  | flat h3 h4=>contradiction
  | gJ _ h3=>rw [h2] at h3;cases h3
  | gK _ h3 h4=>rw [h2] at h3;cases h3;cases ih h4
  | loop _ h3 h4=>rw [h2] at h3;cases h3;cases ih h4;rfl
  | cond h5 h3 h4 _=>exact absurd (h5.symm.trans h1) iw
  | other h5 h3 h4 _ _=>exact absurd (h5.symm.trans h1) iw
 | cond h1 h2 _ h6 ih =>
  intro b hb;cases hb with
  | flat h3 h4=>contradiction
  | gJ _ h3=>rw [h2] at h3;cases h3
  | gK _ h3 h4=>rw [h2] at h3;cases h3;cases ih h4
  | loop h5 h3 h4=>exact absurd (h1.symm.trans h5) iw
  | cond _ h3 h4 _=>rw [h2] at h3;cases h3;cases ih h4;rfl
  | other _ h3 h4 h7 _=>rw [h2] at h3;cases h3;cases ih h4;contradiction
 | other h1 h2 _ h6 _ ih ih2 =>
  intro b hb;cases hb with
  | flat h3 h4=>contradiction
  | gJ _ h3=>rw [h2] at h3;cases h3
  | gK _ h3 h4=>rw [h2] at h3;cases h3;cases ih h4
  | loop h5 h3 h4=>exact absurd (h1.symm.trans h5) iw
  | cond _ h3 h4 h7=>rw [h2] at h3;cases h3;cases ih h4;contradiction
  | other _ h3 h4 h7 h8=>rw [h2] at h3;cases h3;cases ih h4;rw [ih2 h8]
def dC (ts:List Lex.Tok) (k:Nat):Out (Nat × Nat) :=
 (jo ts k).bind fun x k=>(ak ts [61] k).bind fun _ k=>(if au ts k=1 then Out.ok (aT ts k) (k+1) else Out.bad k 3).bind fun n k=>(ak ts [59] k).map fun _=>(x,n)
noncomputable def uk (ts:List Lex.Tok) (l:List (Nat × Nat)) (q:List az) (k:Nat):Out Ts :=
 if au ts k=2 then
  if aj ts k=fC \/ aj ts k=dX then
   (bG ts true (k+1)).bind fun a k'=>(ak ts [59] k').bind fun _ k'=>if au ts k' = 0 then .ok ⟨l,q,decide (aj ts k=dX),some a⟩ (k' + 1) else .bad k' 3
  else .bad k 7
 else .bad k 3
inductive Gt
 | inits (l:List (Nat × Nat))
 | threads (l:List (Nat × Nat)) (q:List az)
inductive Tx (ts:List Lex.Tok):Gt->Nat->Out Ts->Prop
 | init {k k1:Nat} {l:List (Nat × Nat)} {x:Nat × Nat} {out:Out Ts}:aj ts k=nM->dC ts (k+1) = .ok x k1->Tx ts (.inits (l ++ [x])) k1 out->Tx ts (.inits l) k out
 | pQ {k j er:Nat} {l:List (Nat × Nat)}:aj ts k=nM->dC ts (k+1) = .bad j er->Tx ts (.inits l) k (.bad j er)
 | inited {k:Nat} {l:List (Nat × Nat)} {out:Out Ts}:aj ts k≠nM->Tx ts (.threads l []) k out->Tx ts (.inits l) k out
 | many {k:Nat} {l:List (Nat × Nat)} {q:List az}:aj ts k=eT->4<=q.length->Tx ts (.threads l q) k (.bad k 4)
 | thread {k k1:Nat} {l:List (Nat × Nat)} {q:List az} {b:az} {out:Out Ts}:aj ts k=eT->q.length<4->Bx ts (.block 1) (k+1) (.ok b k1)->Tx ts (.threads l (q ++ [b])) k1 out->Tx ts (.threads l q) k out
 | kF {k j er:Nat} {l:List (Nat × Nat)} {q:List az}:aj ts k=eT->q.length<4->Bx ts (.block 1) (k+1) (.bad j er)->Tx ts (.threads l q) k (.bad j er)
 | ask {k:Nat} {l:List (Nat × Nat)} {q:List az}:aj ts k≠eT->Tx ts (.threads l q) k (uk ts l q k)
theorem Tx.CG {ts:List Lex.Tok} {g:Gt} {k:Nat} {a:Out Ts} (h:Tx ts g k a):∀ {b:Out Ts},Tx ts g k b->a=b:=by
 induction h with
 | init h1 h2 _ ih =>
  intro b hb;cases hb with
  | init _ h3 h4=>rw [h2] at h3;cases h3;exact ih h4
  | pQ _ h3=>rw [h2] at h3;cases h3
  | inited h3 _=>contradiction
 | pQ h1 h2 =>
  intro b hb;cases hb with
  | init _ h3 h4=>rw [h2] at h3;cases h3
  | pQ _ h3=>rw [h2] at h3;cases h3;rfl
  | inited h3 _=>contradiction
 | inited h1 _ ih =>
  intro b hb;cases hb with
  | init h3 _ _=>contradiction
  | pQ h3 _=>contradiction
  | inited _ h3=>exact ih h3
 | many h1 h2=>intro b hb;cases hb <;> first | rfl | contradiction | omega
 | thread h1 h2 h3 _ ih =>
  intro b hb;cases hb with
  | many _ h4=>omega
  | thread _ _ h4 h5=>cases h3.CG h4;exact ih h5
  | kF _ _ h4=>cases h3.CG h4
  | ask h4=>contradiction
 | kF h1 h2 h3 =>
  intro b hb;cases hb with
  | many _ h4=>omega
  | thread _ _ h4 h5=>cases h3.CG h4
  | kF _ _ h4=>cases h3.CG h4;rfl
  | ask h4=>contradiction
 | ask h1=>intro b hb;cases hb <;> first | rfl | contradiction
end Go.Proofs.YtaanhmndeobgbaaGreatDoor.fT
namespace Go.Proofs.YtaanhmndeobgbaaGreatDoor.fT
open Go.RowKit Mem Go.Proofs.YtaanhmndeobgbaaGreatDoor.Expr
open Lex (Tok)
def pc (t:Lex.Tok):Array Value:=#[.int .u8 t.kind,.string (str t.text),.int .u64 t.num,.int .i64 t.line,.int .i64 t.xy]
structure Good (ts:List Lex.Tok):Prop where
 more:∀ j,j<ts.length->au ts j≠0->j+1<ts.length
 fin:∀ j,j<ts.length->au ts j=0->aj ts j=[]
 num:∀ j,aT ts j<18446744073709551616
 kind:∀ j,au ts j<256
structure Rd (w:World) (gR gp cap:Nat) (ts:List Lex.Tok) (k:Nat):Prop where
 box:Sits w gR 51 #[.slice (some ⟨gp,k * 5,none⟩) (ts.length - k) (cap - k)]
 row:∀ j i u,j<ts.length->(pc (tk ts j))[i]? = some u->w.cell? ⟨gp,j * 5+i,none⟩=some u
 lt:k<ts.length
 cap:ts.length<=cap
 few:ts.length<=5000
 far:gp≠gR
 good:Good ts
 base:∃ W0,Prog.All W0/\Below W0.heap.size W0 w/\W0.heap.size<=gR
section
variable {w w' : World} {gR gp cap : Nat} {ts : List Lex.Tok} {k : Nat}
theorem Rd.below (h:Rd w gR gp cap ts k) (hb:Below w.heap.size w w'):Rd w' gR gp cap ts k :=
 ⟨h.box.below hb h.box.lt,fun j i u hj hu=>(hb.cell (p:=⟨gp,j * 5+i,none⟩) (World.block_lt_of_cell? _ _ (h.row j i u hj hu))).trans (h.row j i u hj hu),h.lt,h.cap,h.few,h.far,h.good,h.base.imp fun _ ⟨a,b,c⟩=>⟨a,b.trans (hb.mono b.size),c⟩⟩
theorem Rd.Fb (h:Rd w gR gp cap ts k) (hk:aa (fun x=>x=gR) w w'):∃ W0,Prog.All W0/\Below W0.heap.size W0 w' /\ W0.heap.size<=gR :=
 h.base.imp fun _ ⟨a,b,c⟩=>⟨a,behind b hk b.size (fun x e=>by rw [e];exact c),c⟩
theorem Rd.all (h:Rd w gR gp cap ts k):Prog.All w:=by
 obtain ⟨W0,a,b,_⟩:=h.base;exact a.below b
theorem jq:(Tryz.prog.info? 99).map (·.size)=some 5:=by kernel_rfl
theorem jr (t:Lex.Tok):(pc t).all (·.oneCell')=true:=by
 rw [Array.all_eq_true'];intro u hu;simp only [pc,List.mem_toArray,List.mem_cons,List.not_mem_nil,or_false] at hu
 rcases hu with rfl | rfl | rfl | rfl | rfl <;> rfl
theorem Rd.at (h:Rd w gR gp cap ts k) {j:Nat} (hj:j<ts.length):w.cell? ⟨gp,j * 5,none⟩=some (.int .u8 (tk ts j).kind)/\w.cell? ⟨gp,j * 5+1,none⟩=some (.string (str (tk ts j).text))/\w.cell? ⟨gp,j * 5+2,none⟩=some (.int .u64 (tk ts j).num) /\
  w.cell? ⟨gp,j * 5+3,none⟩=some (.int .i64 (tk ts j).line)/\w.cell? ⟨gp,j * 5+4,none⟩=some (.int .i64 (tk ts j).xy) :=
 ⟨h.row j 0 _ hj rfl,h.row j 1 _ hj rfl,h.row j 2 _ hj rfl,h.row j 3 _ hj rfl,h.row j 4 _ hj rfl⟩
theorem ku {g:Nat} {t:Lex.Tok} (h:Sits w g 99 (pc t)):w.cell? ⟨g,0,none⟩=some (.int .u8 t.kind)/\w.cell? ⟨g,1,none⟩=some (.string (str t.text))/\w.cell? ⟨g,2,none⟩=some (.int .u64 t.num)/\w.cell? ⟨g,3,none⟩=some (.int .i64 t.line)/\w.cell? ⟨g,4,none⟩=some (.int .i64 t.xy) :=
 ⟨h.cell 0,h.cell 1,h.cell 2,h.cell 3,h.cell 4⟩
theorem bK (W:World) (g:Nat) (cs:Array Value):aa (fun x=>x=g) W (W.setRow g cs):=⟨rfl,rfl,rfl,by simp [World.setRow],fun x _ hx=>setRow_other W g x _ hx⟩
def ay:Array Value:=#[.int .u8 0,.string ⟨#[]⟩,.int .u64 0,.int .i64 0,.int .i64 0]
theorem je (h:Rd w gR gp cap ts k):Calls Tryz.prog 41 #[.pointer (some ⟨gR,0,none⟩)] w fun e w'=>Made (.returned (.agg (pc (tk ts k)))) w e w':=by
 have HZ:=Lib.hid (Sits.new w 99 ay);have hb:Below w.heap.size w (w.alloc (.cells ay 99)):=(Below.refl _ _).alloc (Nat.le_refl _) _;have HB:=Lib.hid hb;have c0:=h.box.c0;have lR:=h.box.lt;obtain ⟨r0,r1,r2,r3,r4⟩:=h.at h.lt;have lp:=World.block_lt_of_cell? _ _ r0;have m1:(0:Int)<((ts.length - k:Nat):Int):=by have:=h.lt;omega
 generalize ts.length - k=n at c0 m1;generalize tk ts k=t at r0 r1 r2 r3 r4 ⊢;clear h hb;go_enter Tryz.func41,Tryz.ntmps41;go_wp2_with (refine wpList_store_row rfl 99 _ _ rfl w.heap.size (pc t) rfl rfl 99 ay HZ.out jq rfl (jr t) ?_)
 have hk:=bK (w.alloc (.cells ay 99)) w.heap.size (pc t);have hs:Sits ((w.alloc (.cells ay 99)).setRow w.heap.size (pc t)) w.heap.size 99 (pc t):=setRow_heap _ _ _ _ _ _ HZ.out;have HL:=Lib.hid (behind HB.out hk (by simp) (fun x e=>by rw [e];exact Nat.le_refl _));change bodyPost _ _ _ _ _ ((w.alloc (.cells ay 99)).setRow w.heap.size (pc t));generalize (w.alloc (.cells ay 99)).setRow w.heap.size (pc t)=W at hs HL ⊢;obtain ⟨s0,s1,s2,s3,s4⟩:=ku hs;clear hk c0 r0 r1 r2 r3 r4;exact bodyPost_ret (v:=.agg (pc t)) (by simp [results,Tryz.results41,go_sem,s0,s1,s2,s3,s4,pc]) rfl ⟨rfl,HL.out⟩
def M4 (gR gp cap:Nat) (ts:List Lex.Tok) (k:Nat) (w:World) (e:Ending) (w':World):Prop:=e = .returned (.agg (pc (tk ts k)))/\aa (fun x=>x=gR) w w' /\ (k+1<ts.length->Rd w' gR gp cap ts (k+1))
theorem za {W1:World} {g0:Nat} {v:Value} (hR0:Rd w gR gp cap ts k) (hR:Rd W1 gR gp cap ts k) (hl:Below w.heap.size w W1) (h0:Sits W1 g0 99 ay) (hne:gR≠g0) (hg:w.heap.size<=g0)
  (hv:k+1<ts.length->v = .slice (some ⟨gp,(k+1) * 5,none⟩) (ts.length - (k+1)) (cap - (k+1))) :
  ∀ W,W=(W1.setCell ⟨gR,0,none⟩ v).setRow g0 (pc (tk ts k))->Sits W g0 99 (pc (tk ts k))/\aa (fun x=>x=gR) w W/\(k+1<ts.length->Rd W gR gp cap ts (k+1)):=by
 rintro W rfl;have h1:Sits (W1.setCell ⟨gR,0,none⟩ v) g0 99 ay:=h0.far hne.symm v;have hk:=bK (W1.setCell ⟨gR,0,none⟩ v) g0 (pc (tk ts k));have hk1:aa (fun x=>x=gR) W1 (W1.setCell ⟨gR,0,none⟩ v):=(aa.refl (fun x=>x=gR) W1).put (p:=⟨gR,0,none⟩) (.inl rfl) v;have hkk:aa (fun x=>x=gR \/ x=g0) w ((W1.setCell ⟨gR,0,none⟩ v).setRow g0 (pc (tk ts k))) :=
  (aa.of_below hl).trans ((hk1.wider fun x _ h => .inl h).trans (hk.wider fun x _ h => .inr h))
 have hkw:aa (fun x=>x=gR) w ((W1.setCell ⟨gR,0,none⟩ v).setRow g0 (pc (tk ts k))):=hkk.wider fun x hx h=>h.elim id (fun h=>by omega)
 refine ⟨setRow_heap _ _ _ _ _ _ h1,hkw,fun hk2=>⟨?_,fun j i u hj hu=>?_,hk2,hR.cap,hR.few,hR.far,hR.good,hR0.Fb hkw⟩⟩
 ·have hb:=(hR.box.put 0 v).keep hk hne
  rw [hv hk2] at hb ⊢;simpa using hb
 ·have e:=hR.row j i u hj hu
  have ng:gp≠g0:=by have:gp<w.heap.size:=World.block_lt_of_cell? _ _ (hR0.at hR0.lt).1;omega
  rw [World.cell?_of_block (w:=W1.setCell ⟨gR,0,none⟩ v) (setRow_other _ g0 gp _ ng),World.cell?_of_block (w:=W1) (Below.heap_setCell W1 ⟨gR,0,none⟩ v gp hR.far)];exact e
theorem mG (h:Rd w gR gp cap ts k):Calls Tryz.prog 42 #[.pointer (some ⟨gR,0,none⟩)] w (M4 gR gp cap ts k w):=by
 have HR:=Lib.hid h;have c0:=h.box.c0;have f0:w.frozen? ⟨gR,0,none⟩=false:=h.box.free 0;have lR:=h.box.lt;obtain ⟨r0,r1,r2,r3,r4⟩:=h.at h.lt;have lp:=World.block_lt_of_cell? _ _ r0;have m1:(0:Int)<((ts.length - k:Nat):Int):=by have:=h.lt;omega
 have m2:(1:Int)<=((ts.length - k:Nat):Int):=by omega
 have m3:((ts.length - k:Nat):Int)<=((cap - k:Nat):Int):=by have:=h.cap;have:=h.lt;omega
 have m4:((ts.length - k:Nat):Int)<=5000:=by have:=h.few;omega
 have ht:tk ts k=tk ts k:=rfl;generalize hn:ts.length - k=n at c0 m1 m2 m3 m4;generalize hc:cap - k=c at c0 m3;have HN:=Lib.hid hn;have HC:=Lib.hid hc;clear h hn hc ht;generalize htt:tk ts k=t at r0 r1 r2 r3 r4;have HT:=Lib.hid htt;clear htt;go_enter Tryz.func42,Tryz.ntmps42;go_upto_region 2 with (refine wpList_store_row rfl 99 _ _ rfl (w.heap.size+1) (pc t) rfl rfl 99 ay (Sits.made (by simp) _ _) jq rfl (jr t) ?_)
 have hb2:Below w.heap.size w ((w.alloc (.cells ay 99)).alloc (.cells ay 99)):=((Below.refl _ _).alloc (Nat.le_refl _) _).alloc (by simp) _;have hz0:Sits ((w.alloc (.cells ay 99)).alloc (.cells ay 99)) w.heap.size 99 ay:=(Sits.new _ _ _).alloc _;have hz1:Sits ((w.alloc (.cells ay 99)).alloc (.cells ay 99)) (w.heap.size+1) 99 ay:=Sits.made (by simp) _ _;have hk:=bK ((w.alloc (.cells ay 99)).alloc (.cells ay 99)) (w.heap.size+1) (pc t);have hs1:Sits (((w.alloc (.cells ay 99)).alloc (.cells ay 99)).setRow (w.heap.size+1) (pc t)) (w.heap.size+1) 99 (pc t):=setRow_heap _ _ _ _ _ _ hz1;have hs0:=hz0.keep hk (by omega);have hlow:=behind hb2 hk (by simp;omega) (fun x e=>by omega);have hR:=HR.out.below hlow;change Code.wp _ _ _ _ (((w.alloc (.cells ay 99)).alloc (.cells ay 99)).setRow (w.heap.size+1) (pc t));generalize ((w.alloc (.cells ay 99)).alloc (.cells ay 99)).setRow (w.heap.size+1) (pc t)=W1 at hs1 hs0 hlow hR ⊢;generalize hg1:w.heap.size+1=g1 at hs1 ⊢;generalize hg0:w.heap.size=g0 at hs0 ⊢;have HG:Hid (w.heap.size=g0/\w.heap.size+1=g1):=Lib.hid ⟨hg0,hg1⟩;have nC:=Lib.hid hs1;have LP:=Lib.hid hs0;have lQ:=Lib.hid hlow;have HR1:=Lib.hid hR;have d0:W1.cell? ⟨gR,0,none⟩=some (.slice (some ⟨gp,k * 5,none⟩) n c):=by rw [<- HN.out,<- HC.out];exact hR.box.cell 0
 have e0:W1.frozen? ⟨gR,0,none⟩=false:=hR.box.free 0;have l0:=hR.box.lt;have q1:gR≠g1:=by omega
 have q0:gR≠g0:=by omega
 have HQ:Hid (gR≠g1/\gR≠g0/\g0≠g1):=Lib.hid ⟨q1,q0,by omega⟩;obtain ⟨s0,s1,s2,s3,s4⟩:=ku hs1;have lg1:=hs1.lt;have X7:=hs0.lt;clear hb2 hz0 hz1 hk hs1 hs0 hlow hR hg1 hg0 c0 f0 lR r0 r1 r2 r3 r4 lp;have AB:=Lib.hid (za (v:=.slice (some ⟨gp,k * 5+5,none⟩) (n - 1) (c - 1)) HR.out HR1.out lQ.out LP.out HQ.out.2.1 (by have:=HG.out;omega) (fun hk=>by rw [<- HN.out,<- HC.out,show k * 5+5=(k+1) * 5 by omega,show ts.length - k - 1=ts.length - (k+1) by omega,show cap - k - 1=cap - (k+1) by omega]));have R8:=Lib.hid (fun v (h:¬ k+1<ts.length)=>za (v:=v) HR.out HR1.out lQ.out LP.out HQ.out.2.1 (by have:=HG.out;omega) (fun hk=>absurd hk h));rw [HT.out] at AB R8;by_cases hc1:c=1
 ·have HNK:=Lib.hid (show ¬ k+1<ts.length by have:=HN.out;omega)
  subst hc1;obtain rfl:n=1:=by omega
  go_wp2_with (refine wpList_store_row rfl 99 _ _ rfl g0 (pc t) rfl rfl 99 ay (LP.out.far HQ.out.2.1.symm _) jq rfl (jr t) ?_)
  have hF:=R8.out (.slice (some ⟨gp,k * 5,none⟩) 0 0) HNK.out _ rfl;generalize (W1.setCell ⟨gR,0,none⟩ (.slice (some ⟨gp,k * 5,none⟩) 0 0)).setRow g0 (pc t)=W at hF ⊢;obtain ⟨z0,z1,z2,z3,z4⟩:=ku hF.1;have HF:=Lib.hid hF.2;clear hF s0 s1 s2 s3 s4 d0 e0;exact bodyPost_ret (v:=.agg (pc t)) (by simp [results,Tryz.results42,go_sem,z0,z1,z2,z3,z4,pc,Act.put]) rfl ⟨by rw [HT.out],HF.out.1,HF.out.2⟩
 ·have m5:(1:Int)<(c:Int):=by omega
  go_wp2_with (refine wpList_store_row rfl 99 _ _ rfl g0 (pc t) rfl rfl 99 ay (LP.out.far HQ.out.2.1.symm _) jq rfl (jr t) ?_)
  have hF:=AB.out _ rfl;generalize (W1.setCell ⟨gR,0,none⟩ (.slice (some ⟨gp,k * 5+5,none⟩) (n - 1) (c - 1))).setRow g0 (pc t)=W at hF ⊢;obtain ⟨z0,z1,z2,z3,z4⟩:=ku hF.1;have HF:=Lib.hid hF.2;clear hF s0 s1 s2 s3 s4 d0 e0;exact bodyPost_ret (v:=.agg (pc t)) (by simp [results,Tryz.results42,go_sem,z0,z1,z2,z3,z4,pc,Act.put]) rfl ⟨by rw [HT.out],HF.out.1,HF.out.2⟩
theorem Rd.more (h:Rd w gR gp cap ts k) (hk:aj ts k ≠ []):k+1<ts.length:=h.good.more k h.lt fun h0=>hk (h.good.fin k h.lt h0)
theorem str_eq (a b:List UInt8):((str a).toList == (str b).toList)=decide (a=b):=by
 rw [Bool.eq_iff_iff,beq_iff_eq,decide_eq_true_eq];exact ⟨fun h=>by simpa [str] using h,fun h=>by rw [h]⟩
def GM (t:Lex.Tok) (e:Nat):List PanicEntry:=[{ v:=.iface 48 (.agg #[.int .i64 t.line,.int .i64 t.xy,.int .i64 e]),recovered:=false }]
theorem fw (t:Lex.Tok) (e:Nat) (w:World):Calls Tryz.prog 43 #[.agg (pc t),.int .i64 (e:Nat)] w fun en w'=>Made (.panicked (GM t e)) w en w':=by
 unfold pc;go_enter Tryz.func43,Tryz.ntmps43;go_wp2_with fail
 exact ⟨rfl,rfl,(Below.refl _ _).alloc (Nat.le_refl _) _⟩
theorem zb (a b c d e:Value) (w:World):(Instr.field 99 (.agg #[a,b,c,d,e]) 1).run Tryz.prog w = .ok b w:=by kernel_rfl
def Ql (gR gp cap:Nat) (ts:List Lex.Tok) (k:Nat) (s:List UInt8) (w:World) (e:Ending) (w':World):Prop :=
 (aj ts k=s/\e = .returned (.bool true)/\aa (fun x=>x=gR) w w' /\ Rd w' gR gp cap ts (k+1)) \/ (aj ts k≠s/\e = .returned (.bool false)/\Below w.heap.size w w')
theorem lU (h:Rd w gR gp cap ts k) (s:List UInt8) (hs:s ≠ []):Calls Tryz.prog 39 #[.pointer (some ⟨gR,0,none⟩),.string (str s)] w (Ql gR gp cap ts k s w):=by
 have hft:=zb;have HN:=Lib.hid (je h);have HT:=Lib.hid (fun W (hb:Below w.heap.size w W)=>mG (h.below hb));have HE:=str_eq (aj ts k) s;have HM:=Lib.hid (fun (e:aj ts k=s)=>h.more (by rw [e];exact hs));change Hid (Calls _ _ _ _ fun e w'=>Made (.returned (.agg #[.int .u8 (au ts k:Nat),.string (str (aj ts k)),.int .u64 (aT ts k:Nat),.int .i64 (tk ts k).line,.int .i64 (tk ts k).xy])) w e w') at HN;by_cases hq:aj ts k=s
 ·have HQ:=Lib.hid hq
  rw [decide_eq_true hq] at HE;clear h hs hq;generalize str (aj ts k)=x at HN HE;generalize str s=y at HE ⊢;go_enter Tryz.func39,Tryz.ntmps39;go_wp2_with fail
  refine HN.out.mono ?_;rintro e w1 ⟨rfl,hb⟩;have HB:=Lib.hid hb;clear hb;go_wp2_with fail
  refine (HT.out _ HB.out).mono ?_;rintro e w2 ⟨rfl,hk,hr⟩;have HK:=Lib.hid (show aa (fun x=>x=gR) w w2 from (aa.of_below HB.out).trans hk);have HR:=Lib.hid hr;clear hk hr;go_wp2_with fail
  go_ret;exact .inl ⟨HQ.out,rfl,HK.out,HR.out (HM.out HQ.out)⟩
 ·have HQ:=Lib.hid hq
  rw [decide_eq_false hq] at HE;clear h hs hq;generalize str (aj ts k)=x at HN HE;generalize str s=y at HE ⊢;go_enter Tryz.func39,Tryz.ntmps39;go_wp2_with fail
  refine HN.out.mono ?_;rintro e w1 ⟨rfl,hb⟩;have HB:=Lib.hid hb;clear hb;go_wp2_with fail
  go_ret;exact .inr ⟨HQ.out,rfl,HB.out⟩
def Done {α:Type} (gR gp cap:Nat) (ts:List Lex.Tok) (val:α->Ending->World->Prop) (o:Out α) (w:World) (e:Ending) (w':World):Prop :=
 aa (fun x=>x=gR) w w' /\ match o with
  | .ok a k=>val a e w' /\ Rd w' gR gp cap ts k
  | .bad j er=>e = .panicked (GM (tk ts j) er)
def mH:Unit->Ending->World->Prop:=fun _ e _=>e = .returned (.tuple #[])
def Bv:Nat->Ending->World->Prop:=fun a e _=>e = .returned (.int .u8 (a:Nat))
theorem fA (h:Rd w gR gp cap ts k) (s:List UInt8) (hs:s ≠ []):Calls Tryz.prog 48 #[.pointer (some ⟨gR,0,none⟩),.string (str s)] w (Done gR gp cap ts mH (ak ts s k) w):=by
 have HH:=Lib.hid (lU h s hs);have HN:=Lib.hid (fun W (hb:Below w.heap.size w W)=>je (h.below hb));have HT:=Lib.hid (fun W=>fw (tk ts k) 3 W);clear h hs;by_cases hq:aj ts k=s
 ·have HE:Hid (ak ts s k = .ok () (k+1)):=Lib.hid (by unfold ak;rw [if_pos hq])
  have HQ:=Lib.hid hq;rw [HE.out];clear hq;generalize str s=y at HH ⊢;go_enter Tryz.func48,Tryz.ntmps48;go_wp2_with fail
  refine HH.out.mono ?_;intro e w1 hp;rcases hp with ⟨_,rfl,hk,hr⟩ | ⟨hn,_⟩
  ·have HD:=Lib.hid (show Done gR gp cap ts mH (.ok () (k+1)) w (.returned (.tuple #[])) w1 from ⟨hk,rfl,hr⟩)
   clear hk hr;go_wp2_with fail
   go_end0
   exact HD.out
  ·exact absurd HQ.out hn
 ·have HE:Hid (ak ts s k = .bad k 3):=Lib.hid (by unfold ak;rw [if_neg hq])
  have HQ:=Lib.hid hq;rw [HE.out];clear hq;generalize str s=y at HH ⊢;go_enter Tryz.func48,Tryz.ntmps48;go_wp2_with fail
  refine HH.out.mono ?_;intro e w1 hp;rcases hp with ⟨hn,_⟩ | ⟨_,rfl,hb⟩
  ·exact absurd hn HQ.out
  have HB:=Lib.hid hb;clear hb;go_wp2_with fail
  refine (HN.out _ HB.out).mono ?_;rintro e w2 ⟨rfl,hb⟩;have HB2:=Lib.hid (HB.out.trans (hb.mono HB.out.size));clear hb;go_wp2_with fail
  refine (HT.out _).mono ?_;rintro e w3 ⟨rfl,hb⟩;have HB3:=Lib.hid (HB2.out.trans (hb.mono HB2.out.size));clear hb;go_wp2_with fail
  exact ⟨rfl,aa.of_below HB3.out,rfl⟩
def gH (gR gp cap:Nat) (ts:List Lex.Tok) (k q:Nat) (w:World) (e:Ending) (w':World):Prop :=
 aa (fun x=>x=gR) w w' /\ ((au ts k=q/\e = .returned (.agg (pc (tk ts k)))/\(k+1<ts.length->Rd w' gR gp cap ts (k+1))) \/ (au ts k≠q/\e = .panicked (GM (tk ts k) 3)))
theorem pI (h:Rd w gR gp cap ts k) (q:Nat):Calls Tryz.prog 49 #[.pointer (some ⟨gR,0,none⟩),.int .u8 (q:Nat)] w (gH gR gp cap ts k q w):=by
 have hal:Below w.heap.size w (w.alloc (.cells ay 99)):=(Below.refl _ _).alloc (Nat.le_refl _) _;have hz:Sits (w.alloc (.cells ay 99)) w.heap.size 99 ay:=Sits.new _ _ _;have GN:=Lib.hid hal;have HZ:=Lib.hid hz;have HN:=Lib.hid (je (h.below hal));have HT:=Lib.hid (fun W (hb:Below w.heap.size w W)=>mG (h.below hb));have HP:=Lib.hid (fun W=>fw (tk ts k) 3 W);have HRW:=Lib.hid h;have Ar:=Lib.hid (show gR<w.heap.size from h.box.lt);have Jf:=Lib.hid (show gp<w.heap.size from World.block_lt_of_cell? _ _ (h.at h.lt).1)
 have HQ:Hid (((au ts k:Int) != (q:Int))=decide (au ts k≠q)):=Lib.hid (by
  rw [Bool.eq_iff_iff,bne_iff_ne,decide_eq_true_eq];exact ⟨fun h e=>h (by rw [e]),fun h e=>h (by omega)⟩)
 clear h hal hz;go_enter Tryz.func49,Tryz.ntmps49;go_wp2_with fail
 change Calls _ _ _ (w.alloc (.cells ay 99)) _;generalize hW0:w.alloc (.cells ay 99)=W0 at GN HZ HN ⊢;clear hW0;generalize hg0:w.heap.size=g0 at HZ ⊢;have sN:=Lib.hid hg0;clear hg0;refine HN.out.mono ?_;rintro e w1 ⟨rfl,hb⟩;have hz1:=HZ.out.below hb HZ.out.lt;have HZ1:=Lib.hid hz1;have HB1:=Lib.hid (GN.out.trans (hb.mono GN.out.size));have nC:=Lib.hid (Sits.new w1 99 ay);clear hb hz1 HN HZ;have hk:=bK (w1.alloc (.cells ay 99)) w1.heap.size (pc (tk ts k));have hs2:Sits ((w1.alloc (.cells ay 99)).setRow w1.heap.size (pc (tk ts k))) w1.heap.size 99 (pc (tk ts k)):=setRow_heap _ _ _ _ _ _ nC.out;have hlow:=behind ((HB1.out.alloc HB1.out.size (.cells ay 99))) hk (by have:=HB1.out.size;simp;omega) (fun x e=>by rw [e];exact HB1.out.size);have hz2:Sits ((w1.alloc (.cells ay 99)).setRow w1.heap.size (pc (tk ts k))) g0 99 ay:=(HZ1.out.alloc _).keep hk (by have:=HZ1.out.lt;omega);go_upto_region 2 with (refine wpList_store_row rfl 99 _ _ rfl w1.heap.size (pc (tk ts k)) rfl rfl 99 ay nC.out jq rfl (jr _) ?_)
 change Code.wp _ _ _ _ ((w1.alloc (.cells ay 99)).setRow w1.heap.size (pc (tk ts k)));generalize (w1.alloc (.cells ay 99)).setRow w1.heap.size (pc (tk ts k))=W2 at hs2 hlow hz2 ⊢;generalize w1.heap.size=g1 at hs2 ⊢;obtain ⟨s0,s1,s2,s3,s4⟩:=ku hs2;have lQ:=Lib.hid hlow;have HZ2:=Lib.hid hz2;have l1:=hs2.lt;clear hk hlow hz2 hs2;change W2.cell? ⟨g1,0,none⟩=some (.int .u8 (au ts k:Nat)) at s0;by_cases hq:au ts k=q
 ·have e1:((au ts k:Int) != (q:Int))=false:=by rw [HQ.out];exact decide_eq_false (fun h=>h hq)
  have HK:=Lib.hid hq;clear hq;go_wp2_with fail
  refine (HT.out _ lQ.out).mono ?_;rintro e w3 ⟨rfl,hk,hr⟩;have hz3:=HZ2.out.keep hk (by have:=Ar.out;have:=sN.out;omega);have HZ3:=Lib.hid hz3;have Qm:=Lib.hid (show aa (fun x=>x=gR) w w3 from (aa.of_below lQ.out).trans hk);have HRD:=Lib.hid hr;have hk4:=bK w3 g0 (pc (tk ts k));have hs4:Sits (w3.setRow g0 (pc (tk ts k))) g0 99 (pc (tk ts k)):=setRow_heap _ _ _ _ _ _ hz3;have hK4:aa (fun x=>x=gR) w (w3.setRow g0 (pc (tk ts k))):=((Qm.out.wider (fun x _ h => .inl h)).trans (hk4.wider (fun x _ h => .inr h)):aa (fun x=>x=gR \/ x=g0) w _).wider fun x hx h=>h.elim id (fun h=>by have:=sN.out;omega)
  have Zh:k+1<ts.length->Rd (w3.setRow g0 (pc (tk ts k))) gR gp cap ts (k+1):=fun h=>by
   have h3:=hr h;have ng:gp≠g0:=by
    have h4:=(h3.at h3.lt).1;have hlt:gp<w.heap.size:=Jf.out;have:=sN.out;omega
   exact ⟨h3.box.keep hk4 (by have:=Ar.out;have:=sN.out;omega),fun j i u hj hu=>by rw [World.cell?_of_block (w:=w3) (setRow_other _ g0 gp _ ng)];exact h3.row j i u hj hu,h3.lt,h3.cap,h3.few,h3.far,h3.good,HRW.out.Fb hK4⟩
  clear s0 s1 s2 s3 s4 l1 hk hr hz3 hk4;go_wp2_with (refine wpList_store_row rfl 99 _ _ rfl g0 (pc (tk ts k)) rfl rfl 99 ay HZ3.out jq rfl (jr _) ?_)
  generalize w3.setRow g0 (pc (tk ts k))=W4 at hs4 hK4 Zh ⊢;obtain ⟨z0,z1,z2,z3,z4⟩:=ku hs4;have qJ:=Lib.hid hK4;have HR4:=Lib.hid Zh;clear hK4 Zh hs4;exact bodyPost_ret (v:=.agg (pc (tk ts k))) (by simp [results,Tryz.results49,go_sem,z0,z1,z2,z3,z4,pc,Act.put]) rfl ⟨qJ.out,.inl ⟨HK.out,rfl,HR4.out⟩⟩
 ·have e1:((au ts k:Int) != (q:Int))=true:=by rw [HQ.out];exact decide_eq_true hq
  have HK:=Lib.hid hq;clear hq;go_wp2_with fail
  refine (HP.out _).mono ?_;rintro e w3 ⟨rfl,hb⟩;have HB3:=Lib.hid (lQ.out.trans (hb.mono lQ.out.size));clear hb;go_wp2_with fail
  exact ⟨rfl,aa.of_below HB3.out,.inr ⟨HK.out,rfl⟩⟩
end
def CZ (t:Lex.Tok) (w:World) (e:Ending) (w':World):Prop:=Below w.heap.size w w' /\ match iy t.text with
 | some i=>e = .returned (.int .u8 (i:Nat))
 | none=>e = .panicked (GM t 7)
theorem Qn (t:Lex.Tok) (w:World) (hl:((t.text.length:Int) != 2)=true):Calls Tryz.prog 118 #[.agg (pc t)] w fun e w'=>Made (.panicked (GM t 7)) w e w':=by
 have HP:=Lib.hid (fun W=>fw t 7 W);have hb:Below w.heap.size w (w.alloc (.cells (pc t) 99)):=(Below.refl _ _).alloc (Nat.le_refl _) _;have HB:=Lib.hid hb;have hz:(str t.text).size=t.text.length:=by simp [str,ByteArray.size]
 rw [<- hz] at hl;unfold pc at HB HP ⊢;generalize str t.text=x at hl HP HB ⊢;clear hb hz;go_enter Tryz.func118,Tryz.ntmps118;go_wp2_with fail
 refine (HP.out _).mono ?_;rintro e w3 ⟨rfl,hb⟩;have HB3:=Lib.hid (HB.out.trans (hb.mono HB.out.size));clear hb;go_wp2_with fail
 exact ⟨rfl,rfl,HB3.out⟩
theorem Qo (kd nm ln cl:Nat) (a d:UInt8) (w:World):Calls Tryz.prog 118 #[.agg (pc ⟨kd,[a,d],nm,ln,cl⟩)] w (CZ ⟨kd,[a,d],nm,ln,cl⟩ w):=by
 have HP:=Lib.hid (fun W=>fw ⟨kd,[a,d],nm,ln,cl⟩ 7 W);have hb:Below w.heap.size w (w.alloc (.cells (pc ⟨kd,[a,d],nm,ln,cl⟩) 99)):=(Below.refl _ _).alloc (Nat.le_refl _) _;have HB:=Lib.hid hb;clear hb;unfold pc at HB HP ⊢;have e0:∀ h,(str [a,d])[0]'h=a:=fun _=>rfl
 have e1:∀ h,(str [a,d])[1]'h=d:=fun _=>rfl
 have hsz:(str [a,d]).size=2:=rfl;generalize str [a,d]=x at e0 e1 hsz HP HB ⊢;by_cases ha:a=114
 ·have ea:((a.toNat:Int) != 114)=false:=by rw [ha];rfl
  by_cases hd:48<=d.toNat/\d.toNat<=55
  ·have hn:((d.toNat:Int) - 48) % 256=((d.toNat - 48:Nat):Int):=by omega
   have h8:¬ (8:Int)<=((d.toNat - 48:Nat):Int):=by omega
   have HR:Hid (iy [a,d]=some (d.toNat - 48)):=Lib.hid (by unfold iy;simp only;rw [if_pos ⟨ha,hd.1,hd.2⟩]);generalize d.toNat - 48=n at hn h8 HR;clear ha hd;go_enter Tryz.func118,Tryz.ntmps118;go_wp2_with fail
   go_ret;exact ⟨HB.out,by show match iy [a,d] with | some i=>_ | none=>_;rw [HR.out];rfl⟩
  ·have hn:(8:Int)<=((d.toNat:Int) - 48) % 256:=by have:=d.toNat_lt;omega
   have HR:Hid (iy [a,d]=none):=Lib.hid (by unfold iy;simp only;rw [if_neg (by omega)]);clear ha hd;go_enter Tryz.func118,Tryz.ntmps118;go_wp2_with fail
   refine (HP.out _).mono ?_;rintro e w3 ⟨rfl,hb⟩;have HB3:=Lib.hid (HB.out.trans (hb.mono HB.out.size));clear hb;go_wp2_with fail
   exact ⟨rfl,HB3.out,by show match iy [a,d] with | some i=>_ | none=>_;rw [HR.out]⟩
 ·have ea:((a.toNat:Int) != 114)=true:=by
   rw [bne_iff_ne];intro h;exact ha (UInt8.toNat_inj.1 (by show a.toNat=114;omega))
  have HR:Hid (iy [a,d]=none):=Lib.hid (by unfold iy;simp only;rw [if_neg (fun h=>ha h.1)]);clear ha;go_enter Tryz.func118,Tryz.ntmps118;go_wp2_with fail
  refine (HP.out _).mono ?_;rintro e w3 ⟨rfl,hb⟩;have HB3:=Lib.hid (HB.out.trans (hb.mono HB.out.size));clear hb;go_wp2_with fail
  exact ⟨rfl,HB3.out,by show match iy [a,d] with | some i=>_ | none=>_;rw [HR.out]⟩
theorem ry (t:Lex.Tok) (w:World):Calls Tryz.prog 118 #[.agg (pc t)] w (CZ t w):=by
 obtain ⟨kd,tx,nm,ln,cl⟩:=t;have bad:tx.length≠2->Calls Tryz.prog 118 #[.agg (pc ⟨kd,tx,nm,ln,cl⟩)] w (CZ ⟨kd,tx,nm,ln,cl⟩ w):=fun h =>
  (Qn ⟨kd,tx,nm,ln,cl⟩ w (by rw [bne_iff_ne];show ((tx.length:Nat):Int)≠2;omega)).mono fun e w' hp=>⟨hp.2,by
   have:iy tx=none:=by
    unfold iy
    split
    ·simp at h
    ·rfl
   show match iy tx with | some i=>_ | none=>_
   rw [this];exact hp.1⟩
 match tx,bad with
 | [],bad=>exact bad (by simp)
 | [_],bad=>exact bad (by simp)
 | [a,d],_=>exact Qo kd nm ln cl a d w
 | _ :: _ :: _ :: _,bad=>exact bad (by simp)
theorem ze {s:List UInt8} {a:Nat} (h:nK s=some a):∃ c:UInt8,s=[c]/\c≠114/\c.toNat=a:=by
 unfold nK at h
 split at h
 ·rename_i c
  split at h
  ·cases h
  ·rename_i hc
   exact ⟨c,rfl,hc,Option.some.inj h⟩
 ·cases h
theorem GQ {s:List UInt8} (h:nK s=none):s.length≠1 \/ s=[114]:=by
 unfold nK at h
 split at h
 ·rename_i c
  split at h
  ·rename_i hc;exact .inr (by rw [hc])
  ·cases h
 ·rename_i hn
  refine .inl fun hl=>?_
  match s,hl with
  | [c],_=>exact hn c rfl
section
variable {w : World} {gR gp cap : Nat} {ts : List Lex.Tok} {k : Nat}
theorem fM {α:Type} {f:List UInt8->Option α} {a:α} (hq:au ts k=2) (h:f (tk ts k).text=some a):jF ts f k = .ok a (k+1):=by
 unfold jF;rw [if_pos hq];show (match f (tk ts k).text with | some a=>Out.ok a (k+1) | none=>Out.bad k 7)=_;rw [h]
theorem fO {α:Type} {f:List UInt8->Option α} (hq:au ts k=2) (h:f (tk ts k).text=none):jF ts f k = .bad k 7:=by
 unfold jF;rw [if_pos hq];show (match f (tk ts k).text with | some a=>Out.ok a (k+1) | none=>Out.bad k 7)=_;rw [h]
theorem eO {α:Type} {f:List UInt8->Option α} (hq:au ts k≠2):jF ts f k = .bad k 3:=by
 unfold jF;rw [if_neg hq]
theorem jP (h:Rd w gR gp cap ts k):Calls Tryz.prog 85 #[.pointer (some ⟨gR,0,none⟩)] w (Done gR gp cap ts Bv (gy ts k) w):=by
 have HO:=Lib.hid (pI h 2);have HG:=Lib.hid (fun W=>ry (tk ts k) W);have HM:=Lib.hid (fun e=>h.good.more k h.lt e);clear h;go_enter Tryz.func85,Tryz.ntmps85;go_wp2_with fail
 refine HO.out.mono ?_;rintro e w1 ⟨hk,hp⟩;have HK:=Lib.hid hk;rcases hp with ⟨hq,rfl,hr⟩ | ⟨hq,rfl⟩
 ·have HR1:=Lib.hid (hr (HM.out (by rw [hq];decide)))
  have HQ:=Lib.hid hq;clear hk hq hr;go_wp2_with fail
  refine (HG.out _).mono ?_;rintro e w2 ⟨hb,hm⟩;have HB:=Lib.hid hb;clear hb;cases hx:iy (tk ts k).text with
  | some a =>
   rw [hx] at hm;simp only at hm
   subst hm;have HX:=Lib.hid (show gy ts k = .ok a (k+1) from fM HQ.out hx);clear hx;go_wp2_with fail
   go_ret;rw [HX.out];exact ⟨HK.out.trans (aa.of_below HB.out),rfl,HR1.out.below HB.out⟩
  | none =>
   rw [hx] at hm;simp only at hm
   subst hm;have HX:=Lib.hid (show gy ts k = .bad k 7 from fO HQ.out hx);clear hx;go_wp2_with fail
   rw [HX.out];exact ⟨rfl,HK.out.trans (aa.of_below HB.out),rfl⟩
 ·have HF:Hid (gy ts k = .bad k 3):=Lib.hid (eO hq)
  clear hk hq;go_wp2_with fail
  rw [HF.out];exact ⟨rfl,HK.out,rfl⟩
theorem pR (h:Rd w gR gp cap ts k):Calls Tryz.prog 80 #[.pointer (some ⟨gR,0,none⟩)] w (Done gR gp cap ts Bv (jo ts k) w):=by
 have HO:=Lib.hid (pI h 2);have HP:=Lib.hid (fun W=>fw (tk ts k) 7 W);have HM:=Lib.hid (fun e=>h.good.more k h.lt e);clear h;go_enter Tryz.func80,Tryz.ntmps80;go_wp2_with fail
 refine HO.out.mono ?_;rintro e w1 ⟨hk,hp⟩;have HK:=Lib.hid hk;rcases hp with ⟨hq,rfl,hr⟩ | ⟨hq,rfl⟩
 ·have HR1:=Lib.hid (hr (HM.out (by rw [hq];decide)))
  have HQ:=Lib.hid hq;have hz:=Sits.new w1 99 ay;have HZ:=Lib.hid hz;have hkk:=bK (w1.alloc (.cells ay 99)) w1.heap.size (pc (tk ts k));have hs:Sits ((w1.alloc (.cells ay 99)).setRow w1.heap.size (pc (tk ts k))) w1.heap.size 99 (pc (tk ts k)):=setRow_heap _ _ _ _ _ _ hz;have hlow:Below w1.heap.size w1 ((w1.alloc (.cells ay 99)).setRow w1.heap.size (pc (tk ts k))):=behind ((Below.refl _ _).alloc (Nat.le_refl _) _) hkk (by simp) (fun x e=>by rw [e];exact Nat.le_refl _);clear hk hq hr hz hkk;go_upto_region 2 with (refine wpList_store_row rfl 99 _ _ rfl w1.heap.size (pc (tk ts k)) rfl rfl 99 ay HZ.out jq rfl (jr _) ?_)
  change Code.wp _ _ _ _ ((w1.alloc (.cells ay 99)).setRow w1.heap.size (pc (tk ts k)));generalize (w1.alloc (.cells ay 99)).setRow w1.heap.size (pc (tk ts k))=W2 at hs hlow ⊢;generalize w1.heap.size=g1 at hs ⊢;have lQ:=Lib.hid hlow;obtain ⟨s0,s1,s2,s3,s4⟩:=ku hs;have l1:=hs.lt;clear hlow hs HZ;unfold pc at HP;cases hx:nK (tk ts k).text with
  | some a =>
   have HX:=Lib.hid (show jo ts k = .ok a (k+1) from fM HQ.out hx);obtain ⟨c,htx,hc,rfl⟩:=ze hx;rw [htx] at s1;have e0:∀ h,(str [c])[0]'h=c:=fun _=>rfl
   have hsz:(str [c]).size=1:=rfl;have hne:((str [c]).toList == [114])=false:=by
    rw [beq_eq_false_iff_ne];intro h;exact hc (by simpa [str] using h)
   generalize str [c]=x at s1 e0 hsz hne;clear hx htx hc;go_wp2_with fail
   go_ret;rw [HX.out];exact ⟨HK.out.trans (aa.of_below lQ.out),rfl,HR1.out.below lQ.out⟩
  | none =>
   have HX:=Lib.hid (show jo ts k = .bad k 7 from fO HQ.out hx);have hz:(str (tk ts k).text).size=(tk ts k).text.length:=by simp [str,ByteArray.size]
   rcases GQ hx with hl | hl
   ·have hsz:(((str (tk ts k).text).size:Int) != 1)=true:=by rw [hz,bne_iff_ne];omega
    generalize str (tk ts k).text=x at s1 hsz HP;clear hx hl hz;go_wp2_with fail
    refine (HP.out _).mono ?_;rintro e w3 ⟨rfl,hb⟩;have HB3:=Lib.hid (lQ.out.trans (hb.mono lQ.out.size));clear hb;go_wp2_with fail
    rw [HX.out];exact ⟨rfl,HK.out.trans (aa.of_below HB3.out),rfl⟩
   ·have hsz:(str (tk ts k).text).size=1:=by rw [hz,hl];rfl
    have hne:((str (tk ts k).text).toList == [114])=true:=by rw [hl,beq_iff_eq];simp [str]
    generalize str (tk ts k).text=x at s1 hsz hne HP;clear hx hl hz;go_wp2_with fail
    refine (HP.out _).mono ?_;rintro e w3 ⟨rfl,hb⟩;have HB3:=Lib.hid (lQ.out.trans (hb.mono lQ.out.size));clear hb;go_wp2_with fail
    rw [HX.out];exact ⟨rfl,HK.out.trans (aa.of_below HB3.out),rfl⟩
 ·have HF:Hid (jo ts k = .bad k 3):=Lib.hid (eO hq)
  clear hk hq;go_wp2_with fail
  rw [HF.out];exact ⟨rfl,HK.out,rfl⟩
end
end Go.Proofs.YtaanhmndeobgbaaGreatDoor.fT
