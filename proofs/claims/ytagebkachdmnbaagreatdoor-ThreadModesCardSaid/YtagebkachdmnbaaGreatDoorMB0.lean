/- Part 11 of the proof: what is used of the texts UnrS, UnrA, UnrB. -/
import Derived.Test.YtagebkachdmnbaaGreatDoorMA7
import Derived.Lib.Bytealg
import Derived.Test.YtagebkachdmnbaaGreatDoorMA8
import Derived.Test.YtagebkachdmnbaaGreatDoorMA9
import Derived.BigQuiet
section
namespace Go.Proofs.YtagebkachdmnbaaGreatDoor.Unr
open Go.Proofs.YtagebkachdmnbaaGreatDoor.Expr Go.Proofs.YtagebkachdmnbaaGreatDoor.Prog
structure In where
  kind:Nat
  reg:Nat
  mode:Nat
  loc:Int
  a:Option Ex
  b:Option Ex
  next:Int
  els:Int
deriving DecidableEq
abbrev Cd:=List In × Bool
def putF (c:Cd) (x:In):Cd:=if c.1.length=32 then (c.1,true) else (c.1 ++ [x],c.2)
def lenI (c:Cd):Int:=((c.1.length:Nat):Int)
def locI (locs:List UInt8) (l:Nat):Int:=max 0 (Lib.indexByte locs l.toUInt8)
def branchI (a:Option Ex) (th el:Int):In:=⟨8,0,0,0,a,none,th,el⟩
def stuckI (own:Int):In:=⟨9,0,0,0,none,none,own,own⟩
def plainI (locs:List UInt8) (m:Mk) (tt:Int):In:=⟨m.kind,m.reg,m.mode,locI locs m.loc,m.a,m.b,tt,tt⟩
def loopN {α:Type} (f:α->α):Nat->α->α
  | 0,x=>x
  | n+1,x=>loopN f n (f x)
def choiceF (fT fE:Cd->Int->Cd × Int) (a:Option Ex) (c:Cd) (tt:Int):Cd × Int :=
  (putF (fE (fT c tt).1 tt).1 (branchI a (fT c tt).2 (fE (fT c tt).1 tt).2),lenI (fE (fT c tt).1 tt).1)
def roundF (fT:Cd->Int->Cd × Int) (a:Option Ex) (tt:Int) (x:Cd × Int):Cd × Int :=
  (putF (fT x.1 x.2).1 (branchI a (fT x.1 x.2).2 tt),lenI (fT x.1 x.2).1)
def loopF (fT:Cd->Int->Cd × Int) (times:Nat) (a:Option Ex) (c:Cd) (tt:Int):Cd × Int :=
  loopN (roundF fT a tt) times (putF (putF c (stuckI (lenI c))) (branchI a (lenI c) tt),lenI (putF c (stuckI (lenI c))))
def plainF (locs:List UInt8) (m:Mk) (c:Cd) (tt:Int):Cd × Int:=(putF c (plainI locs m tt),lenI c)
def blockF (locs:List UInt8) (times:Nat):Blk->Cd->Int->Cd × Int
  | .nil,c,tt=>(c,tt)
  | .cons m t e r,c,tt =>
    if (blockF locs times r c tt).1.2=true then blockF locs times r c tt else
    if m.kind=8 then choiceF (blockF locs times t) (blockF locs times e) m.a (blockF locs times r c tt).1 (blockF locs times r c tt).2
    else if m.kind=9 then loopF (blockF locs times t) times m.a (blockF locs times r c tt).1 (blockF locs times r c tt).2
    else plainF locs m (blockF locs times r c tt).1 (blockF locs times r c tt).2
def stmtF (locs:List UInt8) (times:Nat) (m:Mk) (t e:Blk) (c:Cd) (tt:Int):Cd × Int :=
  if m.kind=8 then choiceF (blockF locs times t) (blockF locs times e) m.a c tt
  else if m.kind=9 then loopF (blockF locs times t) times m.a c tt
  else plainF locs m c tt
theorem block_cons (locs:List UInt8) (times:Nat) (m:Mk) (t e r:Blk) (c:Cd) (tt:Int) :
    blockF locs times (.cons m t e r) c tt=if (blockF locs times r c tt).1.2=true then blockF locs times r c tt else stmtF locs times m t e (blockF locs times r c tt).1 (blockF locs times r c tt).2:=rfl
def threadF (locs:List UInt8) (times:Nat) (b:Blk):Option (List In × Int) :=
  if (blockF locs times b ([],false) (-1)).1.2=true then none else some ((blockF locs times b ([],false) (-1)).1.1,(blockF locs times b ([],false) (-1)).2)
def threadsF (locs:List UInt8) (times:Nat):List Blk->Option (List (List In × Int))
  | []=>some []
  | b :: l=>match threadF locs times b with
    | none=>none
    | some x=>(threadsF locs times l).map (x :: ·)
def Blk.at_:Blk->Nat->Option (Mk × Blk × Blk)
  | .nil,_=>none
  | .cons m t e _,0=>some (m,t,e)
  | .cons _ _ _ r,k+1=>Blk.at_ r k
def Blk.from_:Blk->Nat->Blk
  | b,0=>b
  | .nil,_+1 => .nil
  | .cons _ _ _ r,k+1=>Blk.from_ r k
theorem at_some:∀ {b:Blk} {k:Nat},k<b.len->∃ m t e,Blk.at_ b k=some (m,t,e)
  | .nil,k,h=>by simp [Blk.len] at h
  | .cons m t e r,0,_=>⟨m,t,e,rfl⟩
  | .cons _ _ _ r,k+1,h=>at_some (b:=r) (k:=k) (by simp [Blk.len] at h;omega)
theorem from_at:∀ {b:Blk} {k:Nat} {m:Mk} {t e:Blk},Blk.at_ b k=some (m,t,e)->Blk.from_ b k = .cons m t e (Blk.from_ b (k+1))
  | .nil,k,m,t,e,h=>by simp [Blk.at_] at h
  | .cons m' t' e' r,0,m,t,e,h=>by
    simp [Blk.at_] at h
    obtain ⟨rfl,rfl,rfl⟩:=h
    cases r <;> rfl
  | .cons _ _ _ r,k+1,m,t,e,h=>by
    have:=from_at (b:=r) (k:=k) h
    show Blk.from_ r k=_
    rw [this]
    rfl
theorem from_zero (b:Blk):Blk.from_ b 0=b:=by cases b <;> rfl
theorem at_size:∀ {b:Blk} {k:Nat} {m:Mk} {t e:Blk},Blk.at_ b k=some (m,t,e)->t.size<b.size/\e.size<b.size
  | .nil,k,m,t,e,h=>by simp [Blk.at_] at h
  | .cons m' t' e' r,0,m,t,e,h=>by
    simp [Blk.at_] at h
    obtain ⟨rfl,rfl,rfl⟩:=h
    simp only [Blk.size];omega
  | .cons _ _ _ r,k+1,m,t,e,h=>by
    have:=at_size (b:=r) (k:=k) h
    simp only [Blk.size];omega
theorem put_len (c:Cd) (x:In) (h:c.1.length<=32):(putF c x).1.length<=32:=by
  unfold putF
  split
  · exact h
  · simp;omega
theorem lenI_bound {c:Cd} (h:c.1.length<=32):0<=lenI c/\lenI c<=32:=by unfold lenI;omega
structure Keeps_ (f:Cd->Int->Cd × Int):Prop where
  len:∀ c tt,c.1.length<=32->(f c tt).1.1.length<=32
  tgt:∀ c tt,c.1.length<=32 -> -1<=tt->tt<=32 -> -1<=(f c tt).2/\(f c tt).2<=32
theorem loopN_keeps {α:Type} {f:α->α} {P:α->Prop} (h:∀ x,P x->P (f x)):∀ n x,P x->P (loopN f n x)
  | 0,_,hx=>hx
  | n+1,x,hx=>loopN_keeps h n (f x) (h x hx)
theorem choice_keeps {fT fE:Cd->Int->Cd × Int} (hT:Keeps_ fT) (hE:Keeps_ fE) (a:Option Ex):Keeps_ (choiceF fT fE a) :=
  ⟨fun c tt h=>put_len _ _ (hE.len _ _ (hT.len _ _ h)),fun c tt h _ _=>by have:=lenI_bound (hE.len (fT c tt).1 tt (hT.len _ _ h));unfold choiceF;dsimp only;omega⟩
theorem loop_keeps {fT:Cd->Int->Cd × Int} (hT:Keeps_ fT) (times:Nat) (a:Option Ex):Keeps_ (loopF fT times a):=by
  have key:∀ c tt,c.1.length<=32->(loopF fT times a c tt).1.1.length<=32 /\ -1<=(loopF fT times a c tt).2/\(loopF fT times a c tt).2<=32:=fun c tt h=>by
    unfold loopF
    refine loopN_keeps (P:=fun x:Cd × Int=>x.1.1.length<=32 /\ -1<=x.2/\x.2<=32) (fun x hx=>?_) _ _ ?_
    · have h1:=hT.len x.1 x.2 hx.1
      have h2:=lenI_bound h1
      exact ⟨put_len _ _ h1,by unfold roundF;dsimp only;omega,by unfold roundF;dsimp only;omega⟩
    · have h1:=put_len c (stuckI (lenI c)) h
      have h2:=lenI_bound h1
      exact ⟨put_len _ _ h1,by dsimp only;omega,by dsimp only;omega⟩
  exact ⟨fun c tt h=>(key c tt h).1,fun c tt h _ _=>(key c tt h).2⟩
theorem plain_keeps (locs:List UInt8) (m:Mk):Keeps_ (plainF locs m) :=
  ⟨fun c tt h=>put_len _ _ h,fun c tt h _ _=>by have:=lenI_bound h;unfold plainF;dsimp only;omega⟩
theorem block_keeps (locs:List UInt8) (times:Nat):∀ b,Keeps_ (blockF locs times b)
  | .nil=>⟨fun _ _ h=>h,fun _ _ _ h h'=>⟨h,h'⟩⟩
  | .cons m t e r=>by
    have hr:=block_keeps locs times r
    have hs:Keeps_ (stmtF locs times m t e):=by
      have h8:=choice_keeps (block_keeps locs times t) (block_keeps locs times e) m.a
      have h9:=loop_keeps (block_keeps locs times t) times m.a
      have h0:=plain_keeps locs m
      refine ⟨fun c tt h=>?_,fun c tt h h1 h2=>?_⟩
      · unfold stmtF;split
        · exact h8.len c tt h
        · split
          · exact h9.len c tt h
          · exact h0.len c tt h
      · unfold stmtF;split
        · exact h8.tgt c tt h h1 h2
        · split
          · exact h9.tgt c tt h h1 h2
          · exact h0.tgt c tt h h1 h2
    refine ⟨fun c tt h=>?_,fun c tt h h1 h2=>?_⟩
    · rw [block_cons];split
      · exact hr.len c tt h
      · exact hs.len _ _ (hr.len c tt h)
    · rw [block_cons];split
      · exact hr.tgt c tt h h1 h2
      · have h3:=hr.tgt c tt h h1 h2
        exact hs.tgt _ _ (hr.len c tt h) h3.1 h3.2
theorem stmt_keeps (locs:List UInt8) (times:Nat) (m:Mk) (t e:Blk):Keeps_ (stmtF locs times m t e):=by
  have h8:=choice_keeps (block_keeps locs times t) (block_keeps locs times e) m.a
  have h9:=loop_keeps (block_keeps locs times t) times m.a
  have h0:=plain_keeps locs m
  refine ⟨fun c tt h=>?_,fun c tt h h1 h2=>?_⟩
  · unfold stmtF;split
    · exact h8.len c tt h
    · split
      · exact h9.len c tt h
      · exact h0.len c tt h
  · unfold stmtF;split
    · exact h8.tgt c tt h h1 h2
    · split
      · exact h9.tgt c tt h h1 h2
      · exact h0.tgt c tt h h1 h2
end Go.Proofs.YtagebkachdmnbaaGreatDoor.Unr
end
section
namespace Go.Proofs.YtagebkachdmnbaaGreatDoor.Unr
open Go.RowKit Go.Shelf Go.Proofs.YtagebkachdmnbaaGreatDoor.Mem Go.Proofs.YtagebkachdmnbaaGreatDoor.Expr Go.Proofs.YtagebkachdmnbaaGreatDoor.Prog Go.Proofs.YtagebkachdmnbaaGreatDoor.Row
def Dull (n₀ k:Nat) (o:Obj):Prop:=n₀<=k->∀ cs t fz,o = .cells cs t fz->t≠82/\t≠122
structure Turn (n₀:Nat) (W W':World):Prop where
  os:W'.os=W.os
  tape:W'.tape=W.tape
  output:W'.output=W.output
  size:W.heap.size<=W'.heap.size
  same:∀ (k:Nat) (o:Obj),W.heap[k]? = some o->Dull n₀ k o->W'.heap[k]? = some o
def DullK (n₀ k:Nat) (o:Obj):Prop:=n₀<=k->∀ cs t fz,o = .cells cs t fz->t≠82/\t≠122/\t≠3
theorem DullK.dull {n₀ k:Nat} {o:Obj} (h:DullK n₀ k o):Dull n₀ k o:=fun h' cs t fz e=>⟨(h h' cs t fz e).1,(h h' cs t fz e).2.1⟩
structure KeptU (n₀:Nat) (W W':World):Prop where
  size:W.heap.size<=W'.heap.size
  same:∀ (k:Nat) (cs:Array Value) (t:TypeId) (fz:Nat × Nat),W.heap[k]? = some (.cells cs t fz)->DullK n₀ k (.cells cs t fz)->W'.heap[k]? = some (.cells cs t fz)
section
variable {n₀ : Nat} {W W' W'' : World}
theorem KeptU.refl (n₀:Nat) (W:World):KeptU n₀ W W:=⟨Nat.le_refl _,fun _ _ _ _ h _=>h⟩
theorem KeptU.trans (h:KeptU n₀ W W') (h':KeptU n₀ W' W''):KeptU n₀ W W'':=⟨Nat.le_trans h.size h'.size,fun k cs t fz e hd=>h'.same k cs t fz (h.same k cs t fz e hd) hd⟩
theorem Turn.kept (h:Turn n₀ W W'):KeptU n₀ W W':=⟨h.size,fun k _ _ _ e hd=>h.same k _ e hd.dull⟩
theorem KeptU.put (n₀:Nat) (W:World) (l:Nat) (o1 o':Obj) (hl:W.heap[l]? = some o1) (ho:o1.isCells=false):KeptU n₀ W (W.putObj l o') :=
  ⟨by simp [World.putObj],fun k cs t fz e _=>by
    by_cases hkl:k=l
    · subst hkl;rw [hl] at e;injection e with e;subst e;simp [Obj.isCells] at ho
    · simp only [World.putObj];rw [Array.getElem?_setIfInBounds_ne (Ne.symm hkl)];exact e⟩
theorem dull_low {k:Nat} (h:k<n₀) (o:Obj):Dull n₀ k o:=fun h'=>by omega
theorem dull_cells {k:Nat} {cs:Array Value} {t:TypeId} {fz:Nat × Nat} (h:t≠82/\t≠122):Dull n₀ k (.cells cs t fz):=fun _ _ _ _ e=>by
  injection e with _ e _;subst e;exact h
theorem dull_mark {k:Nat} {o:Obj} (h:o.isCells=false):Dull n₀ k o:=fun _ cs t fz e=>by subst e;simp [Obj.isCells] at h
theorem KeptU.cell (h:KeptU n₀ W W') {g i:Nat} {v:Value} (hg:g<n₀) (hc:W.cell? ⟨g,i,none⟩=some v):W'.cell? ⟨g,i,none⟩=some v:=by
  have hlt:g<W.heap.size:=World.block_lt_of_cell? _ _ hc
  obtain ⟨o,ho⟩:∃ o,W.heap[g]? = some o:=⟨_,Array.getElem?_eq_getElem hlt⟩
  cases o with
  | cells cs t fz=>exact (World.cell?_of_block (a:=⟨g,i,none⟩) ((h.same g cs t fz ho (fun h'=>by omega)).trans ho.symm)).trans hc
  | _=>unfold World.cell? at hc;rw [ho] at hc;simp at hc
theorem KeptU.sits (h:KeptU n₀ W W') {g:Nat} {t:TypeId} {cs:Array Value} (ht:t≠82/\t≠122/\t≠3) (hs:Sits W g t cs):Sits W' g t cs:=h.same g cs t _ hs fun _ _ _ _ e=>by
  injection e with _ e _;subst e;exact ht
theorem KeptU.num {B:Nat} (hB:n₀<=B) {cs:Array Value} (hs:Sits W B 3 cs) (v:Value):KeptU n₀ W (W.setCell ⟨B,0,none⟩ v) :=
  ⟨by simp [World.setCell],fun k cs' t fz e hd=>by
    by_cases hk:k=B
    · subst hk
      unfold Sits at hs
      rw [e] at hs;injection hs with hs;injection hs with _ hs _
      exact absurd hs (hd hB _ _ _ rfl).2.2
    · exact (Below.heap_setCell W ⟨B,0,none⟩ v k hk).trans e⟩
theorem Turn.refl (n₀:Nat) (W:World):Turn n₀ W W:=⟨rfl,rfl,rfl,Nat.le_refl _,fun _ _ h _=>h⟩
theorem Turn.trans (h:Turn n₀ W W') (h':Turn n₀ W' W''):Turn n₀ W W'' :=
  ⟨h'.os.trans h.os,h'.tape.trans h.tape,h'.output.trans h.output,Nat.le_trans h.size h'.size,fun k o e hd=>h'.same k o (h.same k o e hd) hd⟩
theorem Turn.of_below (h:Below W.heap.size W W'):Turn n₀ W W':=⟨h.os,h.tape,h.output,h.size,fun k _ e _=>(h.block k (Array.getElem?_eq_some_iff.1 e).1).trans e⟩
theorem Turn.below (h:Turn n₀ W W') (hn:n₀<=W.heap.size):Below n₀ W W':=⟨h.os,h.tape,h.output,h.size,fun k hk=>by
  obtain ⟨o,ho⟩:∃ o,W.heap[k]? = some o:=⟨_,Array.getElem?_eq_getElem (by omega)⟩
  exact (h.same k o ho (dull_low hk o)).trans ho.symm⟩
theorem Turn.keeps (B:Nat) (h:Turn n₀ W W'):KeepsFrom B W W':=⟨h.size,fun k o _ hk ho=>h.same k o hk (dull_mark ho)⟩
theorem Turn.sits (h:Turn n₀ W W') {g:Nat} {t:TypeId} {cs:Array Value} (ht:t≠82/\t≠122) (hs:Sits W g t cs):Sits W' g t cs:=h.same g _ hs (dull_cells ht)
theorem Turn.stable (h:Turn n₀ W W') {t:TypeId} (ht:t≠82/\t≠122):Stable t W W':=fun _ _ hs=>h.sits ht hs
theorem Turn.walk {A:World} (h:Turn n₀ A W) {row:Option Nat} (hg:W.grownBy W' row) (hr:∀ k,row=some k->A.heap.size<=k):Turn n₀ A W' :=
  ⟨hg.os.trans h.os,hg.tape.trans h.tape,hg.output.trans h.output,Nat.le_trans h.size hg.size,fun k o e hd=>by
    have hk:=(Array.getElem?_eq_some_iff.1 e).1
    have h1:=h.same k o e hd
    exact (hg.block k (Array.getElem?_eq_some_iff.1 h1).1 (fun e'=>by have:=hr k e'.symm;omega)).trans h1⟩
theorem turn_cell {gc i:Nat} {cs:Array Value} (hc:Sits W gc 122 cs) (hn:n₀<=gc) (v:Value):Turn n₀ W (W.setCell ⟨gc,i,none⟩ v) :=
  ⟨rfl,rfl,rfl,by simp [World.setCell],fun k o e hd=>by
    by_cases hk:k=gc
    · subst hk
      unfold Sits at hc
      rw [e] at hc;injection hc with hc
      exact absurd rfl (hd hn _ _ _ hc).2
    · exact (Below.heap_setCell W ⟨gc,i,none⟩ v k hk).trans e⟩
end
theorem own_other {e t:TypeId} {size B:Nat} {W:World} {r:Option Addr} {n d k:Nat} {xs:List Value} {cs:Array Value} (h:Cut2 e size B W r n d xs) (hs:Sits W k t cs) (hne:t≠e):(Value.slice r n d).ownBlock≠some k:=fun e'=>by
  obtain ⟨cs',hc⟩:=cut2_block h k e'
  unfold Sits at hs
  rw [hs] at hc
  injection hc with hc
  injection hc with _ hc _
  exact hne hc
theorem cut2_other {e t:TypeId} {size B:Nat} {W:World} {r:Option Addr} {n d k:Nat} {xs:List Value} {cs:Array Value} (h:Cut2 e size B W r n d xs) (hs:Sits W k t cs) (hne:t≠e) (i:Nat) (v:Value):Cut2 e size B (W.setCell ⟨k,i,none⟩ v) r n d xs:=by
  have ho:=own_other h hs hne
  refine cut2_of ⟨h.own.1,h.own.2.imp id fun ⟨g,cap,cur,e1,e2,e3,e4⟩=>⟨g,cap,cur,e1,e2,(Below.heap_setCell W ⟨k,i,none⟩ v g (fun e'=>?_)).trans e3,e4⟩⟩
  rw [e1] at ho
  exact ho (by rw [show g=k from e'];rfl)
def inCells (x:In) (av bv:Value):List Value:=[.int .u8 x.kind,.int .u8 x.reg,.int .u8 x.mode,.int .i64 x.loc,av,bv,.int .i64 x.next,.int .i64 x.els]
def InsV (w:World):List In->List Value->Prop
  | [],cs=>cs=[]
  | x :: l,cs=>∃ av bv cr,cs=inCells x av bv ++ cr/\Tree w (trO x.a) av/\Tree w (trO x.b) bv/\InsV w l cr
theorem InsV.stable {w w':World} (hs:Stable 204 w w'):∀ {l:List In} {cs:List Value},InsV w l cs->InsV w' l cs
  | [],_,h=>h
  | _ :: _,_,⟨av,bv,cr,e,ha,hb,h⟩=>⟨av,bv,cr,e,ha.stable hs,hb.stable hs,h.stable hs⟩
theorem InsV.snoc {w:World} {x:In} {av bv:Value} (ha:Tree w (trO x.a) av) (hb:Tree w (trO x.b) bv):∀ {l:List In} {cs:List Value},InsV w l cs->InsV w (l ++ [x]) (cs ++ inCells x av bv)
  | [],cs,h=>by
    rw [show cs=[] from h]
    exact ⟨av,bv,[],by simp,ha,hb,rfl⟩
  | _ :: _,_,⟨av',bv',cr,e,ha',hb',h⟩=>⟨av',bv',cr ++ inCells x av bv,by rw [e,List.append_assoc],ha',hb',InsV.snoc ha hb h⟩
theorem InsV.at_ {w:World}:∀ {l:List In} {cs:List Value},InsV w l cs->∀ {k:Nat} {x:In},l[k]? = some x->∃ av bv,Tree w (trO x.a) av/\Tree w (trO x.b) bv/\∀ i,i<8->cs[k * 8+i]? = (inCells x av bv)[i]?
  | y :: l,_,⟨av,bv,cr,e,ha,hb,_⟩,0,x,hx=>by
    simp at hx;subst hx
    refine ⟨av,bv,ha,hb,fun i hi=>?_⟩
    rw [e,Nat.zero_mul,Nat.zero_add,List.getElem?_append_left (by simp [inCells];omega)]
  | y :: l,_,⟨av,bv,cr,e,_,_,h⟩,k+1,x,hx=>by
    obtain ⟨av',bv',h1,h2,h3⟩:=h.at_ (k:=k) (x:=x) (by simpa using hx)
    refine ⟨av',bv',h1,h2,fun i hi=>?_⟩
    rw [<- h3 i hi,e,List.getElem?_append_right (by simp [inCells];omega)]
    congr 1
    simp [inCells];omega
  | [],_,_,k,x,hx=>by simp at hx
abbrev putV (bc bm:Nat):Value:=.func (.func 94) #[] #[.pointer (some ⟨bc,0,none⟩),.pointer (some ⟨bm,0,none⟩)]
structure CodAt (w0:World) (n₀ gc bc bm:Nat) (locs:List UInt8) (times:Nat) (c:Cd) (W:World):Prop where
  base:Turn n₀ w0 W
  cod:∃ r d css,Sits W gc 122 #[.slice r c.1.length d,.bool c.2,putV bc bm,.string (str locs),.int .i64 (times:Nat)]/\Cut2 82 8 n₀ W r c.1.length d css/\InsV W c.1 css
  boxc:Sits W bc 117 #[.pointer (some ⟨gc,0,none⟩)]
  boxm:Sits W bm 3 #[.int .i64 32]
  few:c.1.length<=32
  old:n₀<=gc/\w0.heap.size<=n₀/\n₀<=W.heap.size
section
variable {w0 W W' : World} {n₀ gc bc bm times : Nat} {locs : List UInt8} {c : Cd}
theorem CodAt.grown (h:CodAt w0 n₀ gc bc bm locs times c W) (hb:Below W.heap.size W W'):CodAt w0 n₀ gc bc bm locs times c W':=by
  obtain ⟨r,d,css,h1,h2,h3⟩:=h.cod
  exact ⟨h.base.trans (Turn.of_below hb),⟨r,d,css,h1.below hb h1.lt,h2.below hb,h3.stable (Stable.below hb)⟩,h.boxc.below hb h.boxc.lt,h.boxm.below hb h.boxm.lt,h.few,h.old.1,h.old.2.1,Nat.le_trans h.old.2.2 hb.size⟩
theorem CodAt.walk (h:CodAt w0 n₀ gc bc bm locs times c W) {row:Option Nat} (hg:W.grownBy W' row) (hr:∀ k,row=some k->w0.heap.size<=k/\∃ o:Obj,W.heap[k]? = some o/\o.isCells=false):CodAt w0 n₀ gc bc bm locs times c W':=by
  have far:∀ (g:Nat) (t:TypeId) (cs:Array Value),Sits W g t cs->Sits W' g t cs:=fun g t cs hs=>hs.grown hg fun e=>by
    obtain ⟨_,o,ho,hc⟩:=hr g e
    unfold Sits at hs
    rw [hs] at ho
    injection ho with ho
    subst ho
    simp [Obj.isCells] at hc
  obtain ⟨r,d,css,h1,h2,h3⟩:=h.cod
  exact ⟨h.base.walk hg (fun k e=>(hr k e).1),⟨r,d,css,far _ _ _ h1,cut2_walk h2 hg (fun k e=>(hr k e).2),h3.stable (fun g cs hs=>far g _ cs hs)⟩,far _ _ _ h.boxc,far _ _ _ h.boxm,h.few,h.old.1,h.old.2.1,Nat.le_trans h.old.2.2 hg.size⟩
theorem CodAt.flag (h:CodAt w0 n₀ gc bc bm locs times c W):CodAt w0 n₀ gc bc bm locs times (c.1,true) (W.setCell ⟨gc,1,none⟩ (.bool true))/\Turn n₀ W (W.setCell ⟨gc,1,none⟩ (.bool true)):=by
  obtain ⟨r,d,css,h1,h2,h3⟩:=h.cod
  have ht:=turn_cell (i:=1) h1 h.old.1 (.bool true)
  exact ⟨⟨h.base.trans ht,⟨r,d,css,h1.put 1 _,cut2_other h2 h1 (by decide) 1 _,h3.stable (ht.stable (by decide))⟩,ht.sits (by decide) h.boxc,ht.sits (by decide) h.boxm,h.few,h.old.1,h.old.2.1,Nat.le_trans h.old.2.2 ht.size⟩,ht⟩
theorem CodAt.app (h:CodAt w0 n₀ gc bc bm locs times c W) {r:Option Addr} {d:Nat} {css:List Value} (h3:InsV W c.1 css)
    (hlt:c.1.length<32) {x:In} {av bv:Value} (ha:Tree W (trO x.a) av) (hb:Tree W (trO x.b) bv) (ht:Turn n₀ W W') (hs:Sits W' gc 122 #[.slice r c.1.length d,.bool c.2,putV bc bm,.string (str locs),.int .i64 (times:Nat)])
    {r':Option Addr} {d':Nat} (hc:Cut2 82 8 n₀ W' r' (c.1.length+1) d' (css ++ inCells x av bv)) :
    CodAt w0 n₀ gc bc bm locs times (c.1 ++ [x],c.2) (W'.setCell ⟨gc,0,none⟩ (.slice r' (c.1.length+1) d'))/\Turn n₀ W (W'.setCell ⟨gc,0,none⟩ (.slice r' (c.1.length+1) d')):=by
  have ht2:=turn_cell (i:=0) hs h.old.1 (.slice r' (c.1.length+1) d')
  have ht3:=ht.trans ht2
  have hst:=ht3.stable (t:=204) (by decide)
  have el:(c.1 ++ [x]).length=c.1.length+1:=by simp
  refine ⟨⟨h.base.trans ht3,⟨r',d',css ++ inCells x av bv,?_,?_,(h3.stable hst).snoc (ha.stable hst) (hb.stable hst)⟩,ht3.sits (by decide) h.boxc,ht3.sits (by decide) h.boxm,by show (c.1 ++ [x]).length<=32;omega,h.old.1,h.old.2.1,Nat.le_trans h.old.2.2 ht3.size⟩,ht3⟩
  · show Sits _ _ _ #[.slice r' (c.1 ++ [x]).length d',_,_,_,_]
    rw [el];exact hs.put 0 _
  · show Cut2 _ _ _ _ _ (c.1 ++ [x]).length _ _
    rw [el];exact cut2_other hc hs (by decide) 0 _
theorem CodAt.stable (h:CodAt w0 n₀ gc bc bm locs times c W):Stable 204 w0 W:=h.base.stable (by decide)
theorem CodAt.tree (h:CodAt w0 n₀ gc bc bm locs times c W) {t:Tr} {v:Value} (ht:Tree w0 t v):Tree W t v:=ht.stable h.stable
end
end Go.Proofs.YtagebkachdmnbaaGreatDoor.Unr
end
section
namespace Go.Proofs.YtagebkachdmnbaaGreatDoor.Unr
open Go.RowKit Go.Shelf Go.Proofs.YtagebkachdmnbaaGreatDoor.Mem Go.Proofs.YtagebkachdmnbaaGreatDoor.Expr Go.Proofs.YtagebkachdmnbaaGreatDoor.Prog Go.Proofs.YtagebkachdmnbaaGreatDoor.Row
theorem rowIn:RowT Tryz.prog 42 82 8 48:=rowT_of (z:=.agg #[.int .u8 0,.int .u8 0,.int .u8 0,.int .i64 0,.pointer none,.pointer none,.int .i64 0,.int .i64 0]) Tryz.underlying42 (by kernel_rfl) rfl (by decide)
abbrev Own (r:Option Addr) (n d:Nat):Nat->Prop:=fun x=>(Value.slice r n d).ownBlock=some x
def rowN (n1:Nat) (cs:List Value):Value->World->Prop:=fun u W=>∃ g,u = .slice (some ⟨g,0,none⟩) 1 1/\n1<=g/\Sits W g 82 cs.toArray
def appN (n₀ n:Nat) (cs:List Value):Value->World->Prop:=fun u W=>∃ r d,u = .slice r n d/\Cut2 82 8 n₀ W r n d cs
theorem turn_own {n₀:Nat} {W W':World} {r:Option Addr} {n d:Nat} {xs:List Value} (h:Cut2 82 8 n₀ W r n d xs) (hk:Keeps (Own r n d) W W'):Turn n₀ W W' :=
  ⟨hk.os,hk.tape,hk.output,hk.size,fun k o e hd=>(hk.block k (Array.getElem?_eq_some_iff.1 e).1 (fun e'=>by
    obtain ⟨cs,hc⟩:=cut2_block h k e'
    rw [e] at hc;injection hc with hc
    have hn:n₀<=k:=by
      cases r with
      | none=>simp [Own,Value.ownBlock] at e'
      | some a =>
        obtain ⟨g,o,s⟩:=a
        simp [Own,Value.ownBlock] at e'
        subst e'
        exact (h.fresh g o s rfl).1
    exact (hd hn _ _ _ hc).1 rfl)).trans e⟩
set_option maxRecDepth 100000 in
set_option maxHeartbeats 4000000 in
theorem put_any {w0:World} {n₀ gc bc bm times:Nat} {locs:List UInt8} {c:Cd} {w:World} (hC:CodAt w0 n₀ gc bc bm locs times c w) (x:In) (av bv:Value) (ha:Tree w (trO x.a) av) (hb:Tree w (trO x.b) bv) :
    Calls Tryz.prog 94 #[.agg #[.int .u8 x.kind,.int .u8 x.reg,.int .u8 x.mode,.int .i64 x.loc,av,bv,.int .i64 x.next,.int .i64 x.els],.pointer (some ⟨bc,0,none⟩),.pointer (some ⟨bm,0,none⟩)] w
      fun e w'=>e = .returned (.int .i64 (lenI c))/\CodAt w0 n₀ gc bc bm locs times (putF c x) w' /\ Turn n₀ w w':=by
  have HLW:=Lib.hid (one_low w (.cells #[.int .u8 x.kind,.int .u8 x.reg,.int .u8 x.mode,.int .i64 x.loc,av,bv,.int .i64 x.next,.int .i64 x.els] 82))
  have HX:=Lib.hid (Sits.new w 82 #[.int .u8 x.kind,.int .u8 x.reg,.int .u8 x.mode,.int .i64 x.loc,av,bv,.int .i64 x.next,.int .i64 x.els])
  have HC:=Lib.hid (hC.grown HLW.out)
  have HA:=Lib.hid (ha.below HLW.out)
  have HB:=Lib.hid (hb.below HLW.out)
  obtain ⟨r,d,css,hc,hcut,hins⟩:=hC.cod
  have HCU:=Lib.hid (hcut.below HLW.out)
  have HIN:=Lib.hid (hins.stable (Stable.below HLW.out))
  have HSC:=Lib.hid (hc.below HLW.out hc.lt)
  have HNX:Hid (¬ Own r c.1.length d w.heap.size):=Lib.hid fun e=>by
    obtain ⟨cs,hcs⟩:=cut2_block hcut _ e
    have:=(Array.getElem?_eq_some_iff.1 hcs).1
    omega
  clear hc hcut hins
  obtain ⟨pa,rfl,_⟩:=ha.ptr
  obtain ⟨pb,rfl,_⟩:=hb.ptr
  clear hC ha hb
  go_enter Tryz.func94,Tryz.ntmps94
  go_upto_region 1 with (fail)
  generalize w.alloc (.cells #[.int .u8 x.kind,.int .u8 x.reg,.int .u8 x.mode,.int .i64 x.loc,.pointer pa,.pointer pb,.int .i64 x.next,.int .i64 x.els] 82)=w1 at HLW HX HC HA HB HCU HIN HSC ⊢
  generalize hgx:w.heap.size=gx at HX HNX ⊢
  clear hgx
  have c0:w1.cell? ⟨gc,0,none⟩=some (.slice r c.1.length d):=HSC.out.cell 0
  have c1:w1.cell? ⟨gc,1,none⟩=some (.bool c.2):=HSC.out.cell 1
  have lc:=HSC.out.lt
  have fc:=HSC.out.free 1
  have p0:w1.cell? ⟨bc,0,none⟩=some (.pointer (some ⟨gc,0,none⟩)):=HC.out.boxc.cell 0
  have lp:=HC.out.boxc.lt
  have m0:w1.cell? ⟨bm,0,none⟩=some (.int .i64 32):=HC.out.boxm.cell 0
  have lm:=HC.out.boxm.lt
  have i1:(c.1.length:Int)<=32:=by have:=HC.out.few;omega
  by_cases hf:c.1.length=32
  · have hz:((c.1.length:Int) == 32)=true:=by simp [hf]
    have HP:Hid (putF c x=(c.1,true)):=Lib.hid (by unfold putF;rw [if_pos hf])
    clear hf
    have HFL:=Lib.hid HC.out.flag
    go_wp2_with fail
    go_ret
    rw [HP.out]
    exact ⟨rfl,HFL.out.1,(Turn.of_below HLW.out).trans HFL.out.2⟩
  · have hz:((c.1.length:Int) == 32)=false:=by simp;omega
    have HP:Hid (putF c x=(c.1 ++ [x],c.2)):=Lib.hid (by unfold putF;rw [if_neg hf])
    have HFW:Hid (c.1.length<32):=Lib.hid (by have:=HC.out.few;omega)
    clear hf
    go_upto_region 4 with (fail)
    clear c0 c1 lc fc p0 lp m0 lm
    have HNO:∀ (k:Nat) (t:TypeId) (cs:Array Value),Sits w1 k t cs->t≠82->¬ Own r c.1.length d k:=fun k t cs hs hne=>own_other HCU.out hs hne
    have HNO:=Lib.hid HNO
    have HNF:Hid (∀ k,w1.heap.size<=k->¬ Own r c.1.length d k):=Lib.hid fun k hk e=>by
      obtain ⟨cs,hc⟩:=cut2_block HCU.out k e
      have:=(Array.getElem?_eq_some_iff.1 hc).1
      omega
    refine Flow.wp_flowB Flow.rel_below (Flow.rel_keeps (Own r c.1.length d)) (fun x y h=>Keeps.of_below h) [17,18,19,20,21,22,23,24,25,26]
      [Flow.eqV (.pointer (some ⟨gc,0,none⟩)),Flow.eqV (.pointer (some ⟨gc,0,none⟩)),Flow.eqV (.pointer (some ⟨gc,0,none⟩)),Flow.eqV (.pointer (some ⟨gc,0,none⟩)),Flow.eqV (.slice r c.1.length d),
       Flow.eqV (.agg #[.int .u8 x.kind,.int .u8 x.reg,.int .u8 x.mode,.int .i64 x.loc,.pointer pa,.pointer pb,.int .i64 x.next,.int .i64 x.els]),rowN w1.heap.size (inCells x (.pointer pa) (.pointer pb)),appN n₀ (c.1.length+1) (css ++ inCells x (.pointer pa) (.pointer pb)),
       Flow.eqV (.pointer (some ⟨gc,0,none⟩)),Flow.eqV (.pointer (some ⟨gc,0,none⟩))] 7
      (fun _ _=>False) (by decide) (by kernel_rfl) (by kernel_rfl) (by kernel_rfl) (by kernel_rfl) (by rfl) ?_ ?_ ?_ ?_ (fun _ _ _ _ h=>h.elim) ?_
    · simp only [List.mem_cons,List.not_mem_nil,or_false,forall_eq_or_imp,forall_eq]
      refine ⟨Flow.eqV_monoR _,Flow.eqV_monoR _,Flow.eqV_monoR _,Flow.eqV_monoR _,Flow.eqV_monoR _,Flow.eqV_monoR _,?_,?_,Flow.eqV_monoR _,Flow.eqV_monoR _⟩
      · rintro u W W' ⟨g,h1,h2,h3⟩ hb
        exact ⟨g,h1,h2,h3.below hb h3.lt⟩
      · rintro u W W' ⟨r',d',h1,h2⟩ hb
        exact ⟨r',d',h1,h2.below hb⟩
    · intro i hi
      match i,hi with
      | 0,_=>exact Flow.eqV_monoR _
      | 1,_=>exact Flow.eqV_monoR _
      | 2,_=>exact Flow.eqV_monoR _
      | 3,_=>exact Flow.eqV_monoR _
      | 4,_=>exact Flow.eqV_monoR _
      | 5,_=>exact Flow.eqV_monoR _
      | 6,_=>exact fun u W W' ⟨g,h1,h2,h3⟩ hk=>⟨g,h1,h2,h3.keep hk (HNF.out g h2)⟩
      | 8,_=>exact Flow.eqV_monoR _
      | 9,_=>exact Flow.eqV_monoR _
      | n+10,_=>exact fun u W W' _ _=>trivial
    · intro i o' hi hia ho A W hW hk he
      simp only [List.length_cons,List.length_nil,Nat.zero_add,Nat.reduceAdd] at hi
      have p0:W.cell? ⟨bc,0,none⟩=some (.pointer (some ⟨gc,0,none⟩)):=(HC.out.boxc.keep hW (HNO.out _ _ _ HC.out.boxc (by decide))).cell 0
      have lp:=(HC.out.boxc.keep hW (HNO.out _ _ _ HC.out.boxc (by decide))).lt
      have hgc:=HSC.out.keep hW (HNO.out _ _ _ HSC.out (by decide))
      have c0:W.cell? ⟨gc,0,none⟩=some (.slice r c.1.length d):=hgc.cell 0
      have lc:=hgc.lt
      obtain rfl | rfl | rfl | rfl | rfl | rfl | rfl | rfl | rfl:i=0 \/ i=1 \/ i=2 \/ i=3 \/ i=4 \/ i=5 \/ i=6 \/ i=8 \/ i=9:=by omega
      · injection ho with ho;subst ho
        have t1:A.tmps[1]?.getD undef = .pointer (some ⟨bc,0,none⟩):=hk 1 (by rfl)
        refine .inl ⟨by kernel_rfl,?_⟩
        go_simp
        exact ⟨rfl,Below.refl _ _⟩
      · injection ho with ho;subst ho
        have t1:A.tmps[1]?.getD undef = .pointer (some ⟨bc,0,none⟩):=hk 1 (by rfl)
        refine .inl ⟨by kernel_rfl,?_⟩
        go_simp
        exact ⟨rfl,Below.refl _ _⟩
      · injection ho with ho;subst ho
        have t18:A.tmps[18]?.getD undef = .pointer (some ⟨gc,0,none⟩):=he 1 (by decide) (by kernel_rfl)
        refine .inl ⟨by kernel_rfl,?_⟩
        go_simp
        exact ⟨rfl,Below.refl _ _⟩
      · injection ho with ho;subst ho
        have t19:A.tmps[19]?.getD undef = .pointer (some ⟨gc,0,none⟩):=he 2 (by decide) (by kernel_rfl)
        refine .inl ⟨by kernel_rfl,?_⟩
        go_simp
        exact ⟨rfl,Below.refl _ _⟩
      · injection ho with ho;subst ho
        have t20:A.tmps[20]?.getD undef = .pointer (some ⟨gc,0,none⟩):=he 3 (by decide) (by kernel_rfl)
        refine .inl ⟨by kernel_rfl,?_⟩
        go_simp
        exact ⟨rfl,Below.refl _ _⟩
      · injection ho with ho;subst ho
        have t3:A.tmps[3]?.getD undef = .pointer (some ⟨gx,0,none⟩):=hk 3 (by rfl)
        have hgx:=HX.out.keep hW HNX.out
        have x0:W.cell? ⟨gx,0,none⟩=some (.int .u8 x.kind):=hgx.cell 0
        have x1:W.cell? ⟨gx,1,none⟩=some (.int .u8 x.reg):=hgx.cell 1
        have x2:W.cell? ⟨gx,2,none⟩=some (.int .u8 x.mode):=hgx.cell 2
        have x3:W.cell? ⟨gx,3,none⟩=some (.int .i64 x.loc):=hgx.cell 3
        have x4:W.cell? ⟨gx,4,none⟩=some (.pointer pa):=hgx.cell 4
        have x5:W.cell? ⟨gx,5,none⟩=some (.pointer pb):=hgx.cell 5
        have x6:W.cell? ⟨gx,6,none⟩=some (.int .i64 x.next):=hgx.cell 6
        have x7:W.cell? ⟨gx,7,none⟩=some (.int .i64 x.els):=hgx.cell 7
        have lx:=hgx.lt
        refine .inl ⟨by kernel_rfl,?_⟩
        go_simp
        exact ⟨rfl,Below.refl _ _⟩
      · injection ho with ho;subst ho
        have t22:A.tmps[22]?.getD undef = .agg #[.int .u8 x.kind,.int .u8 x.reg,.int .u8 x.mode,.int .i64 x.loc,.pointer pa,.pointer pb,.int .i64 x.next,.int .i64 x.els]:=he 5 (by decide) (by kernel_rfl)
        have hsz:=hW.size
        refine .inl ⟨by kernel_rfl,?_⟩
        go_simp
        exact ⟨⟨W.heap.size,rfl,hsz,Sits.new _ _ _⟩,(Below.refl _ _).alloc (Nat.le_refl _) _⟩
      · injection ho with ho;subst ho
        have t17:A.tmps[17]?.getD undef = .pointer (some ⟨gc,0,none⟩):=he 0 (by decide) (by kernel_rfl)
        refine .inl ⟨by kernel_rfl,?_⟩
        go_simp
        exact ⟨rfl,Below.refl _ _⟩
      · injection ho with ho;subst ho
        have t25:A.tmps[25]?.getD undef = .pointer (some ⟨gc,0,none⟩):=he 8 (by decide) (by kernel_rfl)
        refine .inl ⟨by kernel_rfl,?_⟩
        go_simp
        exact ⟨rfl,Below.refl _ _⟩
    · intro o' ho A W hW hk he
      injection ho with ho;subst ho
      have t21:A.tmps[21]?.getD undef = .slice r c.1.length d:=he 4 (by decide) (by kernel_rfl)
      obtain ⟨g23,t23,hg23,hs23⟩:rowN w1.heap.size (inCells x (.pointer pa) (.pointer pb)) (A.tmps[23]?.getD undef) W:=he 6 (by decide) (by kernel_rfl)
      obtain ⟨r',d',W',hr,⟨hgr,_⟩,hbl,hc⟩:=run_append_cut2 rowIn 42 (HCU.out.below hW) (Nat.le_trans HC.out.old.2.2 hW.size) (some ⟨g23,0,none⟩) 1 1 (inCells x (.pointer pa) (.pointer pb)) rfl (lay_new hs23 ⟨[],by simp⟩) (by intro u hu;simp [inCells] at hu;rcases hu with rfl | rfl | rfl | rfl | rfl | rfl | rfl | rfl <;> rfl) (by unfold maxLen;have:=HFW.out;omega) (by have:=HFW.out;omega)
      refine ⟨by kernel_rfl,?_⟩
      have HRes:Hid (Below n₀ W W' /\ Cut2 82 8 n₀ W' r' (c.1.length+1) d' (css ++ inCells x (.pointer pa) (.pointer pb))/\Keeps (Own r c.1.length d) W W'):=Lib.hid ⟨hbl,hc,⟨hgr.os,hgr.tape,hgr.output,hgr.size,fun b hb hn=>hgr.block b hb (fun e=>hn e.symm)⟩⟩
      clear hgr hbl hc hk he
      have e21:A.eval (.tmp 21) = .slice r c.1.length d:=(Flow.eval_form A 21).trans t21
      have e23:A.eval (.tmp 23) = .slice (some ⟨g23,0,none⟩) 1 1:=(Flow.eval_form A 23).trans t23
      unfold execOp
      simp only [resolve,invoke,builtin,Sem.run_bind,Sem.run_pure,Result.andThen_ok,List.map_toArray,List.map_cons,List.map_nil,e21,e23,hr]
      exact ⟨⟨r',d',rfl,HRes.out.2.1⟩,HRes.out.2.2⟩
    · intro xs W hW hv
      obtain ⟨r',d',x7,hcut⟩:appN n₀ (c.1.length+1) (css ++ inCells x (.pointer pa) (.pointer pb)) (xs 7) W:=hv 7 (by decide)
      have x9:xs 9 = .pointer (some ⟨gc,0,none⟩):=hv 9 (by decide)
      have hgc:=HSC.out.keep hW (HNO.out _ _ _ HSC.out (by decide))
      have HF:=Lib.hid (HC.out.app HIN.out HFW.out HA.out HB.out (turn_own HCU.out hW) hgc hcut)
      have c0:W.cell? ⟨gc,0,none⟩=some (.slice r c.1.length d):=hgc.cell 0
      have lc:=hgc.lt
      have fc:=hgc.free 0
      simp only [List.length_cons,List.length_nil,Nat.zero_add,Nat.reduceAdd,List.drop_succ_cons,List.drop_zero,Flow.putL,Act.put,List.setIfInBounds_toArray,List.set_cons_zero,List.set_cons_succ,x7,x9]
      clear hv hW hgc hcut x7 x9
      go_wp2_with fail
      go_ret
      rw [HP.out]
      exact ⟨rfl,HF.out.1,(Turn.of_below HLW.out).trans HF.out.2⟩
end Go.Proofs.YtagebkachdmnbaaGreatDoor.Unr
end
