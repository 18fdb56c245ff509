/- Part 34 of the proof: what is used of the texts PtlO, PtlP. -/
import Derived.Test.YtaanhmndeobgbaaGreatDoorGC8
import Derived.Test.YtaanhmndeobgbaaGreatDoorGD2
set_option maxRecDepth 100000
set_option maxHeartbeats 4000000
namespace Go.Proofs.YtaanhmndeobgbaaGreatDoor.fT
open Go.RowKit Mem Go.Proofs.YtaanhmndeobgbaaGreatDoor.Expr Prog Go.Lib ae
open Go.Proofs.YtaanhmndeobgbaaGreatDoor.Row (Lay cellsOf bO dQ aO)
open Lex (Tok cO jA)
theorem dF.apart {B:Nat} {w W:World} {v:Value} {l:List It} {g:Nat} (h:dF B w v l) (hs:∀ i x,w.cell? ⟨g,i,none⟩ ≠ some (.int .u64 x)) (hk:aa (fun b=>b=g) w W):dF B W v l:=by
 obtain ⟨r,d,e,h,hf⟩:=h;cases l with
 | nil=>exact ⟨r,d,e,(fun j u hu=>by simp [cellsOf] at hu),hf⟩
 | cons a l =>
  refine ⟨r,d,e,fun j u hu=>?_,hf⟩;obtain ⟨g',o,e1,e2,e3⟩:=h j u hu;obtain ⟨g2,o2,e4,_,e5⟩:=h 2 (.int .u64 a.n) (by simp [cellsOf,oh]);rw [e1] at e4;injection e4 with e4;injection e4 with e4 _
  have hne:¬ (g' = g):=fun e=>hs _ _ (by rw [<- e,e4];exact e5)
  exact ⟨g',o,e1,Nat.lt_of_lt_of_le e2 hk.size,(World.cell?_of_block (hk.block g' e2 hne)).trans e3⟩
theorem fF {w:World} {g:Nat} {t:TypeId} {a b c d:Int} {p q:Option Addr} {n m k l:Nat} (hs:Sits w g t #[.int .u8 a,.int .u8 b,.int .u8 c,.int .u8 d,.slice p n k,.slice q m l]):∀ i x,w.cell? ⟨g,i,none⟩ ≠ some (.int .u64 x):=fun i x hc=>by
 rw [hs.cell i] at hc;rcases i with _ | _ | _ | _ | _ | _ | i
 all_goals first | (have e:=Option.some.inj hc;cases e;done) | (simp at hc;done)
theorem eD (w:World) (g i:Nat) (u:Value):aa (fun x=>x=g) w (w.setCell ⟨g,i,none⟩ u):=(aa.refl (fun x=>x=g) w).put (p:=⟨g,i,none⟩) (.inl rfl) u
def FL (m:Prog.Mark) (av bv:Value):Array Value:=#[.int .u8 (m.kind:Nat),.int .u8 (m.reg:Nat),.int .u8 (m.mode:Nat),.int .u8 (m.loc:Nat),av,bv]
def DK (v:Value) (n:Nat) (o:Out Mk) (w:World) (e:Ending) (w':World):Prop :=
 ∃ (m:Prog.Mark) (av bv u:Value),e = .returned (.tuple #[.agg (FL m av bv),u])/\aP v n o u/\dF w.heap.size w' av m.a/\dF w.heap.size w' bv m.b/\(m.a.length<=n+1/\m.b.length<=n+1)/\(∀ a k,o = .ok a k->m=gN a)/\Below w.heap.size w w'
def Rc (v:Value) (n:Nat) (o:Out Unit):Value->World->Prop:=fun u _=>aP v n o u
theorem wY (v:Value) (n:Nat) (o:Out Unit):ll qa (Rc v n o):=fun _ _ _ h _=>h
theorem aP.as {α β:Type} {v:Value} {n:Nat} {o:Out α} {o':Out β} {u:Value} (h:aP v n o u) (e:o.map (fun _=>())=o'.map (fun _=>())):aP v n o' u:=by
 cases o with
 | ok a k=>cases o' with
  | ok b k'=>injection e with _ e;subst e;exact h
  | bad j e'=>cases e
 | bad j e'=>cases o' with
  | ok b k'=>cases e
  | bad j2 e2=>injection e with e1 e2;subst e1 e2;exact h
theorem lu {w:World} {g:Nat} {t:TypeId} {a b c d e f:Value} (h:Sits w g t #[a,b,c,d,e,f]):w.cell? ⟨g,0,none⟩=some a/\w.cell? ⟨g,1,none⟩=some b/\w.cell? ⟨g,2,none⟩=some c/\w.cell? ⟨g,3,none⟩=some d/\w.cell? ⟨g,4,none⟩=some e/\w.cell? ⟨g,5,none⟩=some f/\g<w.heap.size:=⟨h.cell 0,h.cell 1,h.cell 2,h.cell 3,h.cell 4,h.cell 5,h.lt⟩
theorem vL {w:World} {g:Nat} {t:TypeId} {cs:Array Value} (h:Sits w g t cs):w.frozen? ⟨g,0,none⟩=false/\w.frozen? ⟨g,1,none⟩=false/\w.frozen? ⟨g,2,none⟩=false/\w.frozen? ⟨g,3,none⟩=false/\w.frozen? ⟨g,4,none⟩=false/\w.frozen? ⟨g,5,none⟩=false:=⟨h.free 0,h.free 1,h.free 2,h.free 3,h.free 4,h.free 5⟩
def FM (w:World) (g:Nat) (a b c d e f:Value):World:=(((((w.setCell ⟨g,0,none⟩ a).setCell ⟨g,1,none⟩ b).setCell ⟨g,2,none⟩ c).setCell ⟨g,3,none⟩ d).setCell ⟨g,4,none⟩ e).setCell ⟨g,5,none⟩ f
theorem wZ {w:World} {g:Nat} {t:TypeId} {z0 z1 z2 z3 z4 z5:Value} (h:Sits w g t #[z0,z1,z2,z3,z4,z5]) (a b c d e f:Value):Sits (FM w g a b c d e f) g t #[a,b,c,d,e,f]:=(((((h.put 0 a).put 1 b).put 2 c).put 3 d).put 4 e).put 5 f
theorem Aa {B:Nat} {a0 w:World} (h:Below B a0 w) {g:Nat} (hg:B<=g) (a b c d e f:Value):Below B a0 (FM w g a b c d e f):=(((((h.setCell hg a).setCell hg b).setCell hg c).setCell hg d).setCell hg e).setCell hg f
theorem mZ (w:World) (g:Nat) (a b c d e f:Value):aa (fun x=>x=g) w (FM w g a b c d e f):=((((((aa.refl (fun x=>x=g) w).put (p:=⟨g,0,none⟩) (.inl rfl) a).put (p:=⟨g,1,none⟩) (.inl rfl) b).put (p:=⟨g,2,none⟩) (.inl rfl) c).put (p:=⟨g,3,none⟩) (.inl rfl) d).put (p:=⟨g,4,none⟩) (.inl rfl) e).put (p:=⟨g,5,none⟩) (.inl rfl) f
theorem DL {w:World} {g g':Nat} {t:TypeId} {cs:Array Value} (h:Sits w g t cs) (hne:g≠g') (a b c d e f:Value):Sits (FM w g' a b c d e f) g t cs:=(((((h.far (p:=⟨g',0,none⟩) hne a).far (p:=⟨g',1,none⟩) hne b).far (p:=⟨g',2,none⟩) hne c).far (p:=⟨g',3,none⟩) hne d).far (p:=⟨g',4,none⟩) hne e).far (p:=⟨g',5,none⟩) hne f
theorem bP {w:World} {g g':Nat} {t:TypeId} {cs:Array Value} (h:Sits w g t cs) (hne:g≠g') (a b c d:Value):Sits (aF w g' a b c d) g t cs:=(((h.far (p:=⟨g',0,none⟩) hne a).far (p:=⟨g',1,none⟩) hne b).far (p:=⟨g',2,none⟩) hne c).far (p:=⟨g',3,none⟩) hne d
theorem K3 {α:Type} (ts:List Lex.Tok) (o:Out α) (kd rg:Nat) (hk:kd=7):(((((o.map fun _=>()).bind fun _ k=>ak ts [40] k).bind fun _ k=>(jc ts kd k).map fun _=>()).bind fun _ k=>ak ts [41] k).bind fun _ k=>ak ts [59] k).map (fun _=>())=(o.bind fun _ k=>bJ ts kd rg k).map (fun _=>()):=by
 cases o with
 | bad j e=>rfl
 | ok a k =>
  show _=(bJ ts kd rg k).map (fun _=>())
  unfold bJ;have a1:=(eq_true (show kd=7 by omega))
  have a3:=(eq_false (show ¬ (kd=6) by omega))
  clear hk;show (((((((Out.ok () k).bind fun _ k=>ak ts [40] k).bind fun _ k=>(jc ts kd k).map fun _=>())).bind fun _ k=>ak ts [41] k).bind fun _ k=>ak ts [59] k).map (fun _=>()))=_
  simp only [a1,true_or,a3,↓reduceIte,aN,dD,dY,jH,jX]
theorem K4 {α:Type} (ts:List Lex.Tok) (o:Out α) (kd rg:Nat) (hk:kd=2):(((((((o.map fun _=>()).bind fun _ k=>ak ts [40] k).bind fun _ k=>(jo ts k).map fun _=>()).bind fun _ k=>ak ts [44] k).bind fun _ k=>(jc ts kd k).map fun _=>()).bind fun _ k=>ak ts [41] k).bind fun _ k=>ak ts [59] k).map (fun _=>())=(o.bind fun _ k=>bJ ts kd rg k).map (fun _=>()):=by
 cases o with
 | bad j e=>rfl
 | ok a k =>
  show _=(bJ ts kd rg k).map (fun _=>())
  unfold bJ;have a1:=(eq_false (show ¬ (kd=7) by omega))
  have a2:=(eq_true (show kd=2 by omega))
  have a3:=(eq_false (show ¬ (kd=6) by omega))
  clear hk;show (((((((((Out.ok () k).bind fun _ k=>ak ts [40] k).bind fun _ k=>(jo ts k).map fun _=>()).bind fun _ k=>ak ts [44] k).bind fun _ k=>(jc ts kd k).map fun _=>())).bind fun _ k=>ak ts [41] k).bind fun _ k=>ak ts [59] k).map (fun _=>()))=_
  simp only [a1,a2,false_or,a3,↓reduceIte,aN,dD,dY,jH,jX]
theorem K5 {α:Type} (ts:List Lex.Tok) (o:Out α) (kd rg:Nat) (hk:kd=3 \/ kd=4 \/ kd=5):(((((((((o.map fun _=>()).bind fun _ k=>ak ts [40] k).bind fun _ k=>(jo ts k).map fun _=>()).bind fun _ k=>ak ts [44] k).bind fun _ k=>(bG ts false k).map fun _=>()).bind fun _ k=>ak ts [44] k).bind fun _ k=>(jc ts kd k).map fun _=>()).bind fun _ k=>ak ts [41] k).bind fun _ k=>ak ts [59] k).map (fun _=>())=(o.bind fun _ k=>bJ ts kd rg k).map (fun _=>()):=by
 cases o with
 | bad j e=>rfl
 | ok a k =>
  show _=(bJ ts kd rg k).map (fun _=>())
  unfold bJ;have a1:=(eq_false (show ¬ (kd=7) by omega))
  have a2:=(eq_false (show ¬ (kd=2) by omega))
  have a3:=(eq_false (show ¬ (kd=6) by omega))
  clear hk;show (((((((((((Out.ok () k).bind fun _ k=>ak ts [40] k).bind fun _ k=>(jo ts k).map fun _=>()).bind fun _ k=>ak ts [44] k).bind fun _ k=>(bG ts false k).map fun _=>()).bind fun _ k=>ak ts [44] k).bind fun _ k=>(jc ts kd k).map fun _=>())).bind fun _ k=>ak ts [41] k).bind fun _ k=>ak ts [59] k).map (fun _=>()))=_
  simp only [a1,a2,or_self,a3,↓reduceIte,aN,dD,dY,jH,jX]
theorem K6 {α:Type} (ts:List Lex.Tok) (o:Out α) (kd rg:Nat) (hk:kd=6):(((((((((((o.map fun _=>()).bind fun _ k=>ak ts [40] k).bind fun _ k=>(jo ts k).map fun _=>()).bind fun _ k=>ak ts [44] k).bind fun _ k=>(bG ts false k).map fun _=>()).bind fun _ k=>ak ts [44] k).bind fun _ k=>(bG ts false k).map fun _=>()).bind fun _ k=>ak ts [44] k).bind fun _ k=>(jc ts kd k).map fun _=>()).bind fun _ k=>ak ts [41] k).bind fun _ k=>ak ts [59] k).map (fun _=>())=(o.bind fun _ k=>bJ ts kd rg k).map (fun _=>()):=by
 cases o with
 | bad j e=>rfl
 | ok a k =>
  show _=(bJ ts kd rg k).map (fun _=>())
  unfold bJ;have a1:=(eq_false (show ¬ (kd=7) by omega))
  have a2:=(eq_false (show ¬ (kd=2) by omega))
  have a3:=(eq_true (show kd=6 by omega))
  clear hk;show (((((((((((((Out.ok () k).bind fun _ k=>ak ts [40] k).bind fun _ k=>(jo ts k).map fun _=>()).bind fun _ k=>ak ts [44] k).bind fun _ k=>(bG ts false k).map fun _=>()).bind fun _ k=>ak ts [44] k).bind fun _ k=>(bG ts false k).map fun _=>()).bind fun _ k=>ak ts [44] k).bind fun _ k=>(jc ts kd k).map fun _=>())).bind fun _ k=>ak ts [41] k).bind fun _ k=>ak ts [59] k).map (fun _=>()))=_
  simp only [a1,a2,or_self,a3,↓reduceIte,aN,dD,dY,jH,jX]
structure CF (w:World) (gb kd rg:Nat) (p:Option Addr) (n c k j e md lc:Nat) (av bv:Value) (la lb:List It) (W:World):Prop where
 a:Sits W gb 57 #[.slice p n c,.int .i64 (k:Nat),.int .i64 (j:Nat),.int .i64 (e:Nat)]
 m:Sits W (gb+1) 132 #[.int .u8 (kd:Nat),.int .u8 (rg:Nat),.int .u8 (md:Nat),.int .u8 (lc:Nat),av,bv]
 y:Sits W (gb+2) 132 #[.int .u8 0,.int .u8 0,.int .u8 0,.int .u8 0,.slice none 0 0,.slice none 0 0]
 z:Sits W (gb+3) 57 #[.slice none 0 0,.int .i64 0,.int .i64 0,.int .i64 0]
 l:Below w.heap.size w W
 g:w.heap.size<=gb
 ia:dF w.heap.size W av la
 ib:dF w.heap.size W bv lb
section
variable {w W W' : World} {gb kd rg : Nat} {p : Option Addr} {n c k j e md lc : Nat} {av bv : Value} {la lb : List It}
theorem CF.start (w:World) (kd rg:Nat) (p:Option Addr) (n c k j e:Nat):CF w w.heap.size kd rg p n c k j e 0 0 (.slice none 0 0) (.slice none 0 0) [] [] ((((w.alloc (.cells #[.slice p n c,.int .i64 (k:Nat),.int .i64 (j:Nat),.int .i64 (e:Nat)] 57)).alloc (.cells #[.int .u8 (kd:Nat),.int .u8 (rg:Nat),.int .u8 0,.int .u8 0,.slice none 0 0,.slice none 0 0] 132)).alloc (.cells #[.int .u8 0,.int .u8 0,.int .u8 0,.int .u8 0,.slice none 0 0,.slice none 0 0] 132)).alloc (.cells #[.slice none 0 0,.int .i64 0,.int .i64 0,.int .i64 0] 57)) :=
 ⟨(((Sits.new _ _ _).alloc _).alloc _).alloc _,((Sits.made (by simp) _ _).alloc _).alloc _,(Sits.made (by simp) _ _).alloc _,Sits.made (by simp) _ _,((((Below.refl _ _).alloc (Nat.le_refl _) _).alloc (by simp) _).alloc (by simp;omega) _).alloc (by simp;omega) _,Nat.le_refl _,dF.nil _ _,dF.nil _ _⟩
theorem CF.below (h:CF w gb kd rg p n c k j e md lc av bv la lb W) (hb:Below W.heap.size W W'):CF w gb kd rg p n c k j e md lc av bv la lb W' :=
 ⟨h.a.below hb h.a.lt,h.m.below hb h.m.lt,h.y.below hb h.y.lt,h.z.below hb h.z.lt,h.l.trans (hb.mono h.l.size),h.g,h.ia.below hb,h.ib.below hb⟩
theorem CF.row (h:CF w gb kd rg p n c k j e md lc av bv la lb W) (x y z:Nat):CF w gb kd rg p n c x y z md lc av bv la lb (aF W gb (.slice p n c) (.int .i64 (x:Nat)) (.int .i64 (y:Nat)) (.int .i64 (z:Nat))) :=
 ⟨aA h.a _ _ _ _,bP h.m (by omega) _ _ _ _,bP h.y (by omega) _ _ _ _,bP h.z (by omega) _ _ _ _,aG h.l h.g _ _ _ _,h.g,dF.put h.a h.ia _ _ _ _,dF.put h.a h.ib _ _ _ _⟩
theorem CF.un (h:CF w gb kd rg p n c k j e md lc av bv la lb W):∀ i x,W.cell? ⟨gb+1,i,none⟩ ≠ some (.int .u64 x):=by
 obtain ⟨_,_,rfl,_⟩:=h.ia;obtain ⟨_,_,rfl,_⟩:=h.ib;exact fF h.m
theorem CF.set (h:CF w gb kd rg p n c k j e md lc av bv la lb W) (i:Nat) (u:Value) {md' lc':Nat} {Sk Sl:Value} {la' lb':List It} (hm:Sits (W.setCell ⟨gb+1,i,none⟩ u) (gb+1) 132 #[.int .u8 (kd:Nat),.int .u8 (rg:Nat),.int .u8 (md':Nat),.int .u8 (lc':Nat),Sk,Sl]) (ia:dF w.heap.size W Sk la') (ib:dF w.heap.size W Sl lb'):CF w gb kd rg p n c k j e md' lc' Sk Sl la' lb' (W.setCell ⟨gb+1,i,none⟩ u) :=
 ⟨h.a.far (p:=⟨gb+1,i,none⟩) (by simp) u,hm,h.y.far (p:=⟨gb+1,i,none⟩) (by simp) u,h.z.far (p:=⟨gb+1,i,none⟩) (by simp) u,h.l.setCell (p:=⟨gb+1,i,none⟩) (Nat.le_trans h.g (by simp)) u,h.g,ia.apart h.un (eD _ _ _ _),ib.apart h.un (eD _ _ _ _)⟩
theorem CF.mode (h:CF w gb kd rg p n c k j e md lc av bv la lb W) (x:Nat):CF w gb kd rg p n c k j e x lc av bv la lb (W.setCell ⟨gb+1,2,none⟩ (.int .u8 (x:Nat))):=h.set 2 _ (h.m.put 2 _) h.ia h.ib
theorem CF.loc (h:CF w gb kd rg p n c k j e md lc av bv la lb W) (x:Nat):CF w gb kd rg p n c k j e md x av bv la lb (W.setCell ⟨gb+1,3,none⟩ (.int .u8 (x:Nat))):=h.set 3 _ (h.m.put 3 _) h.ia h.ib
theorem CF.ea (h:CF w gb kd rg p n c k j e md lc av bv la lb W) {u:Value} {l:List It} (hu:dF w.heap.size W u l):CF w gb kd rg p n c k j e md lc u bv l lb (W.setCell ⟨gb+1,4,none⟩ u):=h.set 4 _ (h.m.put 4 _) hu h.ib
theorem CF.eb (h:CF w gb kd rg p n c k j e md lc av bv la lb W) {u:Value} {l:List It} (hu:dF w.heap.size W u l):CF w gb kd rg p n c k j e md lc av u la l (W.setCell ⟨gb+1,5,none⟩ u):=h.set 5 _ (h.m.put 5 _) h.ia hu
theorem CF.opn (h:CF w gb kd rg p n c k j e md lc av bv la lb W):(W.cell? ⟨gb,0,none⟩=some (.slice p n c)/\W.cell? ⟨gb,1,none⟩=some (.int .i64 (k:Nat))/\W.cell? ⟨gb,2,none⟩=some (.int .i64 (j:Nat))/\W.cell? ⟨gb,3,none⟩=some (.int .i64 (e:Nat))/\gb<W.heap.size)/\(W.frozen? ⟨gb,0,none⟩=false/\W.frozen? ⟨gb,1,none⟩=false/\W.frozen? ⟨gb,2,none⟩=false/\W.frozen? ⟨gb,3,none⟩=false)/\(W.cell? ⟨gb+1,0,none⟩=some (.int .u8 (kd:Nat))/\W.cell? ⟨gb+1,1,none⟩=some (.int .u8 (rg:Nat))/\W.cell? ⟨gb+1,2,none⟩=some (.int .u8 (md:Nat))/\W.cell? ⟨gb+1,3,none⟩=some (.int .u8 (lc:Nat))/\W.cell? ⟨gb+1,4,none⟩=some av/\W.cell? ⟨gb+1,5,none⟩=some bv/\gb+1<W.heap.size)/\(W.frozen? ⟨gb+1,0,none⟩=false/\W.frozen? ⟨gb+1,1,none⟩=false/\W.frozen? ⟨gb+1,2,none⟩=false/\W.frozen? ⟨gb+1,3,none⟩=false/\W.frozen? ⟨gb+1,4,none⟩=false/\W.frozen? ⟨gb+1,5,none⟩=false):=⟨ag h.a,aL h.a,lu h.m,vL h.m⟩
structure a0i (w:World) (gb:Nat) (p:Option Addr) (n c:Nat) (m0 m1 m2 m3 m4 m5:Value) (x' y' z':Nat) (av bv:Value) (la lb:List It) (V:World):Prop where
 y:Sits V (gb+2) 132 #[m0,m1,m2,m3,m4,m5]
 z:Sits V (gb+3) 57 #[.slice p n c,.int .i64 (x':Nat),.int .i64 (y':Nat),.int .i64 (z':Nat)]
 ia:dF w.heap.size V av la
 ib:dF w.heap.size V bv lb
 l:Below w.heap.size w V
theorem CF.fin (h:CF w gb kd rg p n c k j e md lc av bv la lb W) (m0 m1 m2 m3 m4 m5:Value) (x y z:Nat):a0i w gb p n c m0 m1 m2 m3 m4 m5 x y z av bv la lb (aF (FM W (gb+2) m0 m1 m2 m3 m4 m5) (gb+3) (.slice p n c) (.int .i64 (x:Nat)) (.int .i64 (y:Nat)) (.int .i64 (z:Nat))):=by
 have h0:=fF h.y;have hz:=DL h.z (show gb+3≠gb+2 by omega) m0 m1 m2 m3 m4 m5;have hk:=mZ W (gb+2) m0 m1 m2 m3 m4 m5;exact ⟨bP (wZ h.y _ _ _ _ _ _) (by omega) _ _ _ _,aA hz _ _ _ _,dF.put hz (h.ia.apart h0 hk) _ _ _ _,dF.put hz (h.ib.apart h0 hk) _ _ _ _,aG (Aa h.l (Nat.le_trans h.g (by omega)) _ _ _ _ _ _) (Nat.le_trans h.g (by omega)) _ _ _ _⟩
end
theorem aP.un {α β:Type} {v:Value} {n:Nat} {o:Out α} {u:Value} {f:α->Nat->Out β} (h:aP v n (o.bind f) u):aP v n (o.bind fun a k=>(f a k).map fun _=>()) u:=h.as (by simp only [jH,jX])
def JG {α:Type} (ts:List Lex.Tok) (o:Out α) (w:World) (gb kd rg:Nat) (p:Option Addr) (c:Nat) (V:World):Prop:=∃ (md lc:Nat) (av bv:Value) (la lb:List It) (k j e:Nat) (o1:Out Unit),Hid (CF w gb kd rg p ts.length c k j e md lc av bv la lb V)/\Hid (aP (.slice p ts.length c) ts.length o1 (.agg #[.slice p ts.length c,.int .i64 (k:Nat),.int .i64 (j:Nat),.int .i64 (e:Nat)]))/\Hid (la.length<=ts.length+1/\lb.length<=ts.length+1)/\Hid (∀ mk q,(o.bind fun _ k=>bJ ts kd rg k) = .ok mk q->(⟨kd,rg,md,lc,la,lb⟩:Prog.Mark)=gN mk)/\Hid (((o1.bind fun _ k=>ak ts [41] k).bind fun _ k=>ak ts [59] k).map (fun _=>())=(o.bind fun _ k=>bJ ts kd rg k).map (fun _=>()))
theorem K7 {α:Type} {ts:List Lex.Tok} (hG:gM ts) (p:Option Addr) (c k0 j0 e0 kd rg:Nat) (o:Out α) (w:World) (hP:dK w (.slice p ts.length c) ts) (hR:aP (.slice p ts.length c) ts.length o (.agg #[.slice p ts.length c,.int .i64 (k0:Nat),.int .i64 (j0:Nat),.int .i64 (e0:Nat)])) (hk:kd=7 \/ kd=2 \/ (kd=3 \/ kd=4 \/ kd=5) \/ kd=6) :
  Calls Tryz.prog 86 #[.agg #[.slice p ts.length c,.int .i64 (k0:Nat),.int .i64 (j0:Nat),.int .i64 (e0:Nat)],.agg #[.int .u8 (kd:Nat),.int .u8 (rg:Nat),.int .u8 0,.int .u8 0,.slice none 0 0,.slice none 0 0]] w (DK (.slice p ts.length c) ts.length (o.bind fun _ k=>bJ ts kd rg k) w):=by
 have HP:=hid (fun W (hl:Below w.heap.size w W)=>hP.below hl);have R:=hid (hR.yf (f:=fun _=>()));have HK:=hid (show 2<=kd/\kd<=7 by omega);clear hP hR;go_enter Tryz.func86,Tryz.ntmps86;go_upto_region 1 with (fail)
 refine NR (CF.start w kd rg p ts.length c k0 j0 e0) ?_;intro w0 H;generalize hgb:w.heap.size=gb at H ⊢;clear hgb;have c:=H.out.opn;go_wp2_with fail
 clear c;refine (bF hG [40] ⟨40,[],rfl,by decide⟩ _ (HP.out _ H.out.l) R.out).mono ?_;rintro x w1 ⟨u,rfl,h1,hb⟩;obtain ⟨k1,j1,e1,rfl⟩:=h1.cells;have R:=hid h1;have H:=hid (H.out.below hb);clear h1 hb;have n7:((kd:Int) == 7)=decide (kd=7):=by by_cases h:kd=7 <;> simp [h] <;> omega
 have n2:((kd:Int) == 2)=decide (kd=2):=by by_cases h:kd=2 <;> simp [h] <;> omega
 have n6:((kd:Int) == 6)=decide (kd=6):=by by_cases h:kd=6 <;> simp [h] <;> omega
 have m7:((kd:Int) != 7) = !decide (kd=7):=by rw [bne,n7]
 have m2:((kd:Int) != 2) = !decide (kd=2):=by rw [bne,n2]
 rcases hk with hk | hk | hk | hk
 case' inl =>
  have HD:=hid hk;rw [decide_eq_true (show (kd=7) by omega)] at n7 m7;rw [decide_eq_false (show ¬ (kd=2) by omega)] at n2 m2;rw [decide_eq_false (show ¬ (kd=6) by omega)] at n6;clear hk;have c:=H.out.opn;go_wp2_with fail
  clear c;refine sS (H.out.row k1 j1 e1) ?_;intro V1 H;refine (sH hG HK.out.1 HK.out.2 _ (HP.out _ H.out.l) R.out).mono ?_;rintro x w2 ⟨u,x2,rfl,h1,h2,hb⟩;obtain ⟨k2,j2,e2,rfl⟩:=h1.cells;have X2:=hid h2;have R:=hid h1.un;have H:=hid (H.out.below hb);clear h1 h2 hb;have c:=H.out.opn;go_upto_region 12 with (fail)
  clear c;refine NR ((H.out.mode x2).row k2 j2 e2) ?_;intro V H
  obtain ⟨md,lc,av,bv,la,lb,k,j,e,o1,H,R,HB,HM,HE⟩:JG ts o w gb kd rg p c V:=⟨_,_,_,_,_,_,_,_,_,_,H,R,hid ⟨by simp,by simp⟩,hid (fun mk q h=>by
   obtain ⟨_,q0,ho,h⟩:=aJ h;have hk:=HD.out;unfold bJ at h;have a1:=(eq_true (show kd=7 by omega))
   have a3:=(eq_false (show ¬ (kd=6) by omega))
   simp only [a1,true_or,a3,↓reduceIte,aN] at h
   obtain ⟨_,q1,g1,h⟩:=aJ h;obtain ⟨mm,q8,g8,h⟩:=aJ h;obtain ⟨_,q9,g9,h⟩:=aJ h;obtain ⟨_,g10,rfl⟩:=map_ok h;have y2:=X2.out mm q8 (by simp only [Out.map,Out.bind,ho,g1,g8]);rw [y2]
   rfl),hid (K3 ts o kd rg HD.out)⟩
 case' inr.inl =>
  have HD:=hid hk;rw [decide_eq_false (show ¬ (kd=7) by omega)] at n7 m7;rw [decide_eq_true (show (kd=2) by omega)] at n2 m2;rw [decide_eq_false (show ¬ (kd=6) by omega)] at n6;clear hk;have c:=H.out.opn;go_wp2_with fail
  clear c;refine sS (H.out.row k1 j1 e1) ?_;intro V1 H;refine (rJ hG _ (HP.out _ H.out.l) R.out).mono ?_;rintro x w2 ⟨u,x2,rfl,h1,h2,hb⟩;obtain ⟨k2,j2,e2,rfl⟩:=h1.cells;have X2:=hid h2;have R:=hid h1.un;have H:=hid (H.out.below hb);clear h1 h2 hb;have c:=H.out.opn;go_wp2_with fail
  clear c;refine sS ((H.out.loc x2).row k2 j2 e2) ?_;intro V2 H;refine (bF hG [44] ⟨44,[],rfl,by decide⟩ _ (HP.out _ H.out.l) R.out).mono ?_;rintro x w3 ⟨u,rfl,h1,hb⟩;obtain ⟨k3,j3,e3,rfl⟩:=h1.cells;have R:=hid h1;have H:=hid (H.out.below hb);clear h1 hb;have c:=H.out.opn;go_wp2_with fail
  clear c;refine sS (H.out.row k3 j3 e3) ?_;intro V3 H;refine (sH hG HK.out.1 HK.out.2 _ (HP.out _ H.out.l) R.out).mono ?_;rintro x w4 ⟨u,x4,rfl,h1,h2,hb⟩;obtain ⟨k4,j4,e4,rfl⟩:=h1.cells;have X4:=hid h2;have R:=hid h1.un;have H:=hid (H.out.below hb);clear h1 h2 hb;have c:=H.out.opn;go_upto_region 12 with (fail)
  clear c;refine NR ((H.out.mode x4).row k4 j4 e4) ?_;intro V H
  obtain ⟨md,lc,av,bv,la,lb,k,j,e,o1,H,R,HB,HM,HE⟩:JG ts o w gb kd rg p c V:=⟨_,_,_,_,_,_,_,_,_,_,H,R,hid ⟨by simp,by simp⟩,hid (fun mk q h=>by
   obtain ⟨_,q0,ho,h⟩:=aJ h;have hk:=HD.out;unfold bJ at h;have a1:=(eq_false (show ¬ (kd=7) by omega))
   have a2:=(eq_true (show kd=2 by omega))
   have a3:=(eq_false (show ¬ (kd=6) by omega))
   simp only [a1,a2,false_or,a3,↓reduceIte,aN] at h
   obtain ⟨_,q1,g1,h⟩:=aJ h;obtain ⟨xl,q3,t,h⟩:=aJ h;obtain ⟨_,q2,g2,t⟩:=aJ t;obtain ⟨_,g3,rfl⟩:=map_ok t;obtain ⟨mm,q8,g8,h⟩:=aJ h;obtain ⟨_,q9,g9,h⟩:=aJ h;obtain ⟨_,g10,rfl⟩:=map_ok h;have y2:=X2.out xl q2 (by simp only [Out.map,Out.bind,ho,g1,g2]);have y4:=X4.out mm q8 (by simp only [Out.map,Out.bind,ho,g1,g2,g3,g8]);rw [y2,y4]
   rfl),hid (K4 ts o kd rg HD.out)⟩
 case' inr.inr.inl =>
  have HD:=hid hk;rw [decide_eq_false (show ¬ (kd=7) by omega)] at n7 m7;rw [decide_eq_false (show ¬ (kd=2) by omega)] at n2 m2;rw [decide_eq_false (show ¬ (kd=6) by omega)] at n6;clear hk;have c:=H.out.opn;go_wp2_with fail
  clear c;refine sS (H.out.row k1 j1 e1) ?_;intro V1 H;refine (rJ hG _ (HP.out _ H.out.l) R.out).mono ?_;rintro x w2 ⟨u,x2,rfl,h1,h2,hb⟩;obtain ⟨k2,j2,e2,rfl⟩:=h1.cells;have X2:=hid h2;have R:=hid h1.un;have H:=hid (H.out.below hb);clear h1 h2 hb;have c:=H.out.opn;go_wp2_with fail
  clear c;refine sS ((H.out.loc x2).row k2 j2 e2) ?_;intro V2 H;refine (bF hG [44] ⟨44,[],rfl,by decide⟩ _ (HP.out _ H.out.l) R.out).mono ?_;rintro x w3 ⟨u,rfl,h1,hb⟩;obtain ⟨k3,j3,e3,rfl⟩:=h1.cells;have R:=hid h1;have H:=hid (H.out.below hb);clear h1 hb;have c:=H.out.opn;go_wp2_with fail
  clear c;refine sS (H.out.row k3 j3 e3) ?_;intro V3 H;refine (kJ hG false _ (HP.out _ H.out.l) R.out).mono ?_;rintro x w4 ⟨v4,l4,u,rfl,h1,h2,h3,h4,hb⟩;obtain ⟨k4,j4,e4,rfl⟩:=h1.cells;have h2:=h2.low H.out.l.size;obtain ⟨r4,d4,rfl,h5,h6⟩:=h2;have I:=hid (show dF w.heap.size w4 _ l4 from ⟨r4,d4,rfl,h5,h6⟩);have X4:=hid (And.intro h3 h4);have R:=hid h1.un;have H:=hid (H.out.below hb);clear h1 h3 h4 h5 h6 hb;have c:=H.out.opn;go_wp2_with fail
  clear c;refine sS ((H.out.ea I.out).row k4 j4 e4) ?_;intro V4 H;refine (bF hG [44] ⟨44,[],rfl,by decide⟩ _ (HP.out _ H.out.l) R.out).mono ?_;rintro x w5 ⟨u,rfl,h1,hb⟩;obtain ⟨k5,j5,e5,rfl⟩:=h1.cells;have R:=hid h1;have H:=hid (H.out.below hb);clear h1 hb;have c:=H.out.opn;go_wp2_with fail
  clear c;refine sS (H.out.row k5 j5 e5) ?_;intro V5 H;refine (sH hG HK.out.1 HK.out.2 _ (HP.out _ H.out.l) R.out).mono ?_;rintro x w6 ⟨u,x6,rfl,h1,h2,hb⟩;obtain ⟨k6,j6,e6,rfl⟩:=h1.cells;have X6:=hid h2;have R:=hid h1.un;have H:=hid (H.out.below hb);clear h1 h2 hb;have c:=H.out.opn;go_upto_region 12 with (fail)
  clear c;refine NR ((H.out.mode x6).row k6 j6 e6) ?_;intro V H
  obtain ⟨md,lc,av,bv,la,lb,k,j,e,o1,H,R,HB,HM,HE⟩:JG ts o w gb kd rg p c V:=⟨_,_,_,_,_,_,_,_,_,_,H,R,hid ⟨X4.out.2,by simp⟩,hid (fun mk q h=>by
   obtain ⟨_,q0,ho,h⟩:=aJ h;have hk:=HD.out;unfold bJ at h;have a1:=(eq_false (show ¬ (kd=7) by omega))
   have a2:=(eq_false (show ¬ (kd=2) by omega))
   have a3:=(eq_false (show ¬ (kd=6) by omega))
   simp only [a1,a2,or_self,a3,↓reduceIte,aN] at h
   obtain ⟨_,q1,g1,h⟩:=aJ h;obtain ⟨xl,q3,t,h⟩:=aJ h;obtain ⟨_,q2,g2,t⟩:=aJ t;obtain ⟨_,g3,rfl⟩:=map_ok t;obtain ⟨_,qb4,t,h⟩:=aJ h;obtain ⟨ea4,qa4,Vq,t⟩:=aJ t;obtain ⟨_,Yx,rfl⟩:=map_ok t;obtain ⟨mm,q8,g8,h⟩:=aJ h;obtain ⟨_,q9,g9,h⟩:=aJ h;obtain ⟨_,g10,rfl⟩:=map_ok h;have y2:=X2.out xl q2 (by simp only [Out.map,Out.bind,ho,g1,g2]);have y4:=X4.out.1 ea4 qa4 (by simp only [Out.map,Out.bind,ho,g1,g2,g3,Vq]);have y6:=X6.out mm q8 (by simp only [Out.map,Out.bind,ho,g1,g2,g3,Vq,Yx,g8]);rw [y2,y4,y6]
   rfl),hid (K5 ts o kd rg HD.out)⟩
 case' inr.inr.inr =>
  have HD:=hid hk;rw [decide_eq_false (show ¬ (kd=7) by omega)] at n7 m7;rw [decide_eq_false (show ¬ (kd=2) by omega)] at n2 m2;rw [decide_eq_true (show (kd=6) by omega)] at n6;clear hk;have c:=H.out.opn;go_wp2_with fail
  clear c;refine sS (H.out.row k1 j1 e1) ?_;intro V1 H;refine (rJ hG _ (HP.out _ H.out.l) R.out).mono ?_;rintro x w2 ⟨u,x2,rfl,h1,h2,hb⟩;obtain ⟨k2,j2,e2,rfl⟩:=h1.cells;have X2:=hid h2;have R:=hid h1.un;have H:=hid (H.out.below hb);clear h1 h2 hb;have c:=H.out.opn;go_wp2_with fail
  clear c;refine sS ((H.out.loc x2).row k2 j2 e2) ?_;intro V2 H;refine (bF hG [44] ⟨44,[],rfl,by decide⟩ _ (HP.out _ H.out.l) R.out).mono ?_;rintro x w3 ⟨u,rfl,h1,hb⟩;obtain ⟨k3,j3,e3,rfl⟩:=h1.cells;have R:=hid h1;have H:=hid (H.out.below hb);clear h1 hb;have c:=H.out.opn;go_wp2_with fail
  clear c;refine sS (H.out.row k3 j3 e3) ?_;intro V3 H;refine (kJ hG false _ (HP.out _ H.out.l) R.out).mono ?_;rintro x w4 ⟨v4,l4,u,rfl,h1,h2,h3,h4,hb⟩;obtain ⟨k4,j4,e4,rfl⟩:=h1.cells;have h2:=h2.low H.out.l.size;obtain ⟨r4,d4,rfl,h5,h6⟩:=h2;have I:=hid (show dF w.heap.size w4 _ l4 from ⟨r4,d4,rfl,h5,h6⟩);have X4:=hid (And.intro h3 h4);have R:=hid h1.un;have H:=hid (H.out.below hb);clear h1 h3 h4 h5 h6 hb;have c:=H.out.opn;go_wp2_with fail
  clear c;refine sS ((H.out.ea I.out).row k4 j4 e4) ?_;intro V4 H;refine (bF hG [44] ⟨44,[],rfl,by decide⟩ _ (HP.out _ H.out.l) R.out).mono ?_;rintro x w5 ⟨u,rfl,h1,hb⟩;obtain ⟨k5,j5,e5,rfl⟩:=h1.cells;have R:=hid h1;have H:=hid (H.out.below hb);clear h1 hb;have c:=H.out.opn;go_wp2_with fail
  clear c;refine sS (H.out.row k5 j5 e5) ?_;intro V5 H;refine (kJ hG false _ (HP.out _ H.out.l) R.out).mono ?_;rintro x w6 ⟨v6,l6,u,rfl,h1,h2,h3,h4,hb⟩;obtain ⟨k6,j6,e6,rfl⟩:=h1.cells;have h2:=h2.low H.out.l.size;obtain ⟨r6,d6,rfl,h5,h6⟩:=h2;have I:=hid (show dF w.heap.size w6 _ l6 from ⟨r6,d6,rfl,h5,h6⟩);have X6:=hid (And.intro h3 h4);have R:=hid h1.un;have H:=hid (H.out.below hb);clear h1 h3 h4 h5 h6 hb;have c:=H.out.opn;go_wp2_with fail
  clear c;refine sS ((H.out.eb I.out).row k6 j6 e6) ?_;intro V6 H;refine (bF hG [44] ⟨44,[],rfl,by decide⟩ _ (HP.out _ H.out.l) R.out).mono ?_;rintro x w7 ⟨u,rfl,h1,hb⟩;obtain ⟨k7,j7,e7,rfl⟩:=h1.cells;have R:=hid h1;have H:=hid (H.out.below hb);clear h1 hb;have c:=H.out.opn;go_wp2_with fail
  clear c;refine sS (H.out.row k7 j7 e7) ?_;intro V7 H;refine (sH hG HK.out.1 HK.out.2 _ (HP.out _ H.out.l) R.out).mono ?_;rintro x w8 ⟨u,x8,rfl,h1,h2,hb⟩;obtain ⟨k8,j8,e8,rfl⟩:=h1.cells;have X8:=hid h2;have R:=hid h1.un;have H:=hid (H.out.below hb);clear h1 h2 hb;have c:=H.out.opn;go_upto_region 12 with (fail)
  clear c;refine NR ((H.out.mode x8).row k8 j8 e8) ?_;intro V H
  obtain ⟨md,lc,av,bv,la,lb,k,j,e,o1,H,R,HB,HM,HE⟩:JG ts o w gb kd rg p c V:=⟨_,_,_,_,_,_,_,_,_,_,H,R,hid ⟨X4.out.2,X6.out.2⟩,hid (fun mk q h=>by
   obtain ⟨_,q0,ho,h⟩:=aJ h;have hk:=HD.out;unfold bJ at h;have a1:=(eq_false (show ¬ (kd=7) by omega))
   have a2:=(eq_false (show ¬ (kd=2) by omega))
   have a3:=(eq_true (show kd=6 by omega))
   simp only [a1,a2,or_self,a3,↓reduceIte] at h
   obtain ⟨_,q1,g1,h⟩:=aJ h;obtain ⟨xl,q3,t,h⟩:=aJ h;obtain ⟨_,q2,g2,t⟩:=aJ t;obtain ⟨_,g3,rfl⟩:=map_ok t;obtain ⟨_,qb4,t,h⟩:=aJ h;obtain ⟨ea4,qa4,Vq,t⟩:=aJ t;obtain ⟨_,Yx,rfl⟩:=map_ok t;obtain ⟨_,qb5,t,h⟩:=aJ h;obtain ⟨ea5,qa5,ga5,t⟩:=aJ t;obtain ⟨_,gb5,rfl⟩:=map_ok t;obtain ⟨mm,q8,g8,h⟩:=aJ h;obtain ⟨_,q9,g9,h⟩:=aJ h;obtain ⟨_,g10,rfl⟩:=map_ok h;have y2:=X2.out xl q2 (by simp only [Out.map,Out.bind,ho,g1,g2]);have y4:=X4.out.1 ea4 qa4 (by simp only [Out.map,Out.bind,ho,g1,g2,g3,Vq]);have y6:=X6.out.1 ea5 qa5 (by simp only [Out.map,Out.bind,ho,g1,g2,g3,Vq,Yx,ga5]);have y8:=X8.out mm q8 (by simp only [Out.map,Out.bind,ho,g1,g2,g3,Vq,Yx,ga5,gb5,g8]);rw [y2,y4,y6,y8]
   rfl),hid (K6 ts o kd rg HD.out)⟩
 all_goals
  obtain ⟨ra,da,rfl,_⟩:=H.out.ia;obtain ⟨rb,db,rfl,_⟩:=H.out.ib;refine oN kE [54,55,56,57] [aV (.agg #[.int .u8 (kd:Nat),.int .u8 (rg:Nat),.int .u8 (md:Nat),.int .u8 (lc:Nat),.slice ra la.length da,.slice rb lb.length db]),aV (.agg #[.slice p ts.length c,.int .i64 (k:Nat),.int .i64 (j:Nat),.int .i64 (e:Nat)]),Rc (.slice p ts.length c) ts.length (o1.bind fun _ k=>ak ts [41] k),Rc (.slice p ts.length c) ts.length ((o1.bind fun _ k=>ak ts [41] k).bind fun _ k=>ak ts [59] k)] 100 [] (fun _ _=>True) (fun _ _=>False)
   (by kernel_rfl) (by kernel_rfl) (by kernel_rfl) (by kernel_rfl) (by simp) ?_ ?_ (fun o h=>absurd h (by decide)) (fun p hp=>by cases hp) (fun _ _ _ h=>h.elim) ?_
  ·simp only [List.mem_cons,List.not_mem_nil,or_false,forall_eq_or_imp,forall_eq]
   exact ⟨dx _,dx _,wY _ _ _,wY _ _ _⟩
  ·intro i oq hi _ hoq A W hW hkk he
   simp only [List.length_cons,List.length_nil,Nat.zero_add,Nat.reduceAdd] at hi
   have H:=H.out.below hW;refine .inl ?_;obtain rfl | rfl | rfl | rfl:i=0 \/ i=1 \/ i=2 \/ i=3:=by omega
   all_goals (injection hoq with hoq;subst hoq)
   ·have t3:A.tmps[3]?.getD undef = .pointer (some ⟨gb+1,0,none⟩):=hkk 3 (by rfl)
    have b0:=lu H.m;go_simp
    exact ⟨rfl,Below.refl _ _⟩
   ·have t2:A.tmps[2]?.getD undef = .pointer (some ⟨gb,0,none⟩):=hkk 2 (by rfl)
    have a0:=ag H.a;go_simp
    exact ⟨rfl,Below.refl _ _⟩
   ·have s55:A.tmps[55]?.getD undef = .agg #[.slice p ts.length c,.int .i64 (k:Nat),.int .i64 (j:Nat),.int .i64 (e:Nat)]:=he 1 (by kernel_rfl)
    have hc:=bF hG [41] ⟨41,[],rfl,by decide⟩ W (HP.out W H.l) R.out;go_simp
    exact hc.mono fun _ _ ⟨_,e,h1,hb⟩ => .inl ⟨_,e,h1,hb⟩
   ·have s56:aP _ _ _ (A.tmps[56]?.getD undef):=he 2 (by kernel_rfl)
    have hc:=bF hG [59] ⟨59,[],rfl,by decide⟩ W (HP.out W H.l) s56;go_simp
    exact hc.mono fun _ _ ⟨_,e,h1,hb⟩ => .inl ⟨_,e,h1,hb⟩
  ·intro xs W hx _ _
   obtain ⟨hW,hx⟩:=hx (by decide);have e0':xs 0 = .agg #[.int .u8 (kd:Nat),.int .u8 (rg:Nat),.int .u8 (md:Nat),.int .u8 (lc:Nat),.slice ra la.length da,.slice rb lb.length db]:=hx 0 (by decide);have h1:=aP.as (hx 3 (by decide)) HE.out;obtain ⟨kz,jz,ez,e3'⟩:=h1.cells;rw [e3'] at h1;have R:=hid h1;have H:=hid (H.out.below hW);simp only [List.length_cons,List.length_nil,Nat.zero_add,Nat.reduceAdd,List.drop_succ_cons,List.drop_zero,gZ,Act.put,List.setIfInBounds_toArray,e0',e3']
   clear hx e0' e3' h1 hW;have c0:=lu H.out.y;have cf:=vL H.out.y;have z0:=ag H.out.z;have zf:=aL H.out.z;go_wp2_with fail
   clear c0 cf z0 zf;refine oQ (H.out.fin (.int .u8 (kd:Nat)) (.int .u8 (rg:Nat)) (.int .u8 (md:Nat)) (.int .u8 (lc:Nat)) (.slice ra la.length da) (.slice rb lb.length db) kz jz ez) ?_;intro W9 F;have s0:=lu F.out.y;have s6:=ag F.out.z;exact bodyPost_ret (v:=.tuple #[.agg (FL ⟨kd,rg,md,lc,la,lb⟩ (.slice ra la.length da) (.slice rb lb.length db)),.agg #[.slice p ts.length c,.int .i64 (kz:Nat),.int .i64 (jz:Nat),.int .i64 (ez:Nat)]]) (by simp [results,Tryz.results86,go_sem,s0,s6,FL]) rfl ⟨⟨kd,rg,md,lc,la,lb⟩,_,_,_,rfl,R.out,F.out.ia,F.out.ib,HB.out,HM.out,F.out.l⟩
theorem BU {α:Type} {v:Value} {ts:List Lex.Tok} {o:Out α} {u:Value} (hG:gM ts) (kd rg:Nat) (h2:2<=kd) (h7:kd<=7) (w:World) (hP:dK w v ts) (hR:aP v ts.length o u) :
  Calls Tryz.prog 86 #[u,.agg #[.int .u8 (kd:Nat),.int .u8 (rg:Nat),.int .u8 0,.int .u8 0,.slice none 0 0,.slice none 0 0]] w (DK v ts.length (o.bind fun _ k=>bJ ts kd rg k) w):=by
 obtain ⟨gp,op,c,rfl,_,_⟩:=hP.at_;obtain ⟨k0,j0,e0,rfl⟩:=hR.cells;exact K7 hG _ c k0 j0 e0 kd rg o w hP hR (by omega)
end Go.Proofs.YtaanhmndeobgbaaGreatDoor.fT
namespace Go.Proofs.YtaanhmndeobgbaaGreatDoor.fT
open Go.RowKit Mem Go.Proofs.YtaanhmndeobgbaaGreatDoor.Expr Prog Go.Lib ae
open Go.Proofs.YtaanhmndeobgbaaGreatDoor.Row (Lay cellsOf bO dQ mU eX cz eY dM ax aO iU)
open Lex (Tok cO jA)
def JH (x:Prog.Mark) (av bv:Value):List Value:=[.int .u8 (x.kind:Nat),.int .u8 (x.reg:Nat),.int .u8 (x.mode:Nat),.int .u8 (x.loc:Nat),av,bv]
def vW (U:Nat->Prop) (w:World) (v:Value) (l:List It):Prop:=dF 0 w v l/\(l ≠ []->∀ g o s n d,v = .slice (some ⟨g,o,s⟩) n d->U g)
def iM (U:Nat->Prop) (w:World):List Prog.Mark->List Value->Prop
 | [],cs=>cs=[]
 | x :: l,cs=>∃ av bv cr,cs=JH x av bv ++ cr/\vW U w av x.a/\vW U w bv x.b/\(x.a.length<=10000/\x.b.length<=10000)/\iM U w l cr
theorem vW.of {B:Nat} {w:World} {v:Value} {l:List It} (h:dF B w v l):vW (fun g=>B<=g) w v l:=by
 obtain ⟨r,d,rfl,h1,h2⟩:=h;exact ⟨⟨r,d,rfl,h1,fun _ _ _ _=>Nat.zero_le _⟩,fun _ g o s n d' e=>by injection e with e _ _;exact h2 g o s e⟩
section
variable {U V : Nat → Prop} {w w' : World}
theorem vW.slice {v:Value} {l:List It} (h:vW U w v l):∃ p n c,v = .slice p n c:=by
 obtain ⟨⟨r,d,e,_⟩,_⟩:=h;exact ⟨r,_,d,e⟩
theorem vW.imp {v:Value} {l:List It} (h:vW U w v l) (f:dF 0 w v l->dF 0 w' v l) (hU:∀ g,U g->V g):vW V w' v l:=⟨f h.1,fun hl g o s n d e=>hU g (h.2 hl g o s n d e)⟩
theorem iM.imp (f:∀ v l,vW U w v l->vW V w' v l):∀ {l:List Prog.Mark} {cs:List Value},iM U w l cs->iM V w' l cs
 | [],_,h=>h
 | _ :: _,_,⟨av,bv,cr,e,ha,hb,hl,h⟩=>⟨av,bv,cr,e,f _ _ ha,f _ _ hb,hl,h.imp f⟩
theorem iM.below (hb:Below w.heap.size w w') {l:List Prog.Mark} {cs:List Value} (h:iM U w l cs):iM U w' l cs:=h.imp fun _ _ h=>h.imp (fun h=>h.below hb) fun _ h=>h
theorem iM.len:∀ {l:List Prog.Mark} {cs:List Value},iM U w l cs->cs.length=l.length * 6
 | [],_,h=>by rw [show _=_ from h];rfl
 | _ :: _,_,⟨av,bv,cr,e,_,_,_,h⟩=>by
  rw [e,List.length_append,h.len,List.length_cons];simp only [JH,List.length_cons,List.length_nil];omega
theorem iM.one:∀ {l:List Prog.Mark} {cs:List Value},iM U w l cs->∀ u ∈ cs,u.oneCell' = true
 | [],_,h=>by rw [show _=_ from h];intro u hu;cases hu
 | _ :: _,_,⟨av,bv,cr,e,ha,hb,_,h⟩=>by
  intro u hu;obtain ⟨p,n,c,rfl⟩:=ha.slice;obtain ⟨q,m,c',rfl⟩:=hb.slice;rw [e] at hu;rcases List.mem_append.1 hu with hu | hu
  ·simp only [JH,List.mem_cons,List.not_mem_nil,or_false] at hu
   rcases hu with rfl | rfl | rfl | rfl | rfl | rfl <;> rfl
  ·exact h.one u hu
theorem iM.append:∀ {l:List Prog.Mark} {cs:List Value} {l2:List Prog.Mark} {cs2:List Value},iM U w l cs->iM U w l2 cs2->iM U w (l ++ l2) (cs ++ cs2)
 | [],_,_,_,h,h2=>by rw [show _=_ from h];exact h2
 | _ :: _,_,_,_,⟨av,bv,cr,e,ha,hb,hl,h⟩,h2=>⟨av,bv,_,by rw [e,List.append_assoc],ha,hb,hl,h.append h2⟩
theorem iM.first:∀ {l:List Prog.Mark} {cs:List Value},iM U w l cs->l ≠ []->∃ x,cs[0]? = some (.int .u8 x)
 | [],_,_,h0=>absurd rfl h0
 | x :: _,_,⟨av,bv,cr,e,_⟩,_=>⟨x.kind,by rw [e];rfl⟩
end
def o8 (B:Nat) (w:World) (v:Value) (l:List Prog.Mark):Prop:=∃ r d cs,v = .slice r l.length d/\Lay w r cs/\iM (fun g=>B<=g) w l cs/\∀ g o s,r=some ⟨g,o,s⟩->B<=g
theorem o8.nil (B:Nat) (w:World):o8 B w (.slice none 0 0) []:=⟨none,0,[],rfl,(fun j u h=>by simp at h),rfl,fun _ _ _ h=>by cases h⟩
theorem o8.below {B:Nat} {w w':World} {v:Value} {l:List Prog.Mark} (h:o8 B w v l) (hb:Below w.heap.size w w'):o8 B w' v l:=by
 obtain ⟨r,d,cs,e,h1,h2,h3⟩:=h;exact ⟨r,d,cs,e,h1.below hb,h2.below hb,h3⟩
theorem o8.low {B B':Nat} {w:World} {v:Value} {l:List Prog.Mark} (h:o8 B w v l) (hB:B' <= B):o8 B' w v l:=by
 obtain ⟨r,d,cs,e,h1,h2,h3⟩:=h;exact ⟨r,d,cs,e,h1,(h2.imp fun _ _ h=>h.imp (fun h=>h) fun g hg=>Nat.le_trans hB hg),fun g o s he=>Nat.le_trans hB (h3 g o s he)⟩
theorem iM.off {U:Nat->Prop} {w W:World} {g:Nat} {t:TypeId} {p:Option Addr} {n c:Nat} {x y z:Int} (hs:Sits w g t #[.slice p n c,.int .i64 x,.int .i64 y,.int .i64 z]) (hk:aa (fun b=>b=g) w W) {l:List Prog.Mark} {cs:List Value} (h:iM U w l cs):iM U W l cs:=h.imp fun _ _ h=>h.imp (fun h=>h.off hs hk) fun _ h=>h
theorem o8.off {B:Nat} {w W:World} {g:Nat} {t:TypeId} {p:Option Addr} {n c:Nat} {x y z:Int} {v:Value} {l:List Prog.Mark} (h:o8 B w v l) (hs:Sits w g t #[.slice p n c,.int .i64 x,.int .i64 y,.int .i64 z]) (hk:aa (fun b=>b=g) w W):o8 B W v l:=by
 obtain ⟨r,d,cs,e,h1,h2,h3⟩:=h;refine ⟨r,d,cs,e,?_,h2.off hs hk,h3⟩;cases l with
 | nil=>rw [show cs=[] from h2];exact fun j u h=>by simp at h
 | cons a l =>
  obtain ⟨q,hq⟩:=h2.first (by simp)
  obtain ⟨g0,o0,e0,_,hc0⟩:=h1 0 _ hq;have hne:¬ (g0=g):=fun e=>uu hs (e ▸ hc0) (.inl ⟨_,rfl⟩)
  exact fun j u hu=>by
   obtain ⟨g',o,e1,e2,e3⟩:=h1 j u hu;rw [e1] at e0;injection e0 with e0;injection e0 with e0 _
   subst e0;exact ⟨g',o,e1,Nat.lt_of_lt_of_le e2 hk.size,(World.cell?_of_block (hk.block g' e2 hne)).trans e3⟩
theorem o8.put {B:Nat} {w:World} {g:Nat} {t:TypeId} {p:Option Addr} {n c:Nat} {x y z:Int} {v:Value} {l:List Prog.Mark} (hs:Sits w g t #[.slice p n c,.int .i64 x,.int .i64 y,.int .i64 z]) (h:o8 B w v l) (a b c' d:Value):o8 B (aF w g a b c' d) v l:=h.off hs (bQ w g a b c' d)
def dP (v:Value) (n b:Nat) (o:Out az) (w:World) (e:Ending) (w':World):Prop :=
 ∃ lv l u,e = .returned (.tuple #[lv,u])/\aP v n o u/\o8 w.heap.size w' lv l/\(∀ a k,o = .ok a k->l=aS a)/\l.length<=b/\Below w.heap.size w w'
def FN (ts:List Lex.Tok) (gp op c k:Nat):Prop:=∀ (d:Nat) (out:Out az) (w:World),d<=9->Bx ts (.block d) k out->dK w (.slice (some ⟨gp,op,none⟩) ts.length c) ts->k<ts.length ->
 Calls Tryz.prog 18 #[.agg #[.slice (some ⟨gp,op,none⟩) ts.length c,.int .i64 (k:Nat),.int .i64 (0:Nat),.int .i64 (0:Nat)],.int .i64 (d:Nat)] w (dP (.slice (some ⟨gp,op,none⟩) ts.length c) ts.length (ts.length+3 - k) out w)
def Yy (ts:List Lex.Tok) (gp op c k:Nat):Prop:=∀ (d:Nat) (out:Out az) (w:World),d<=8->Bx ts (.stmt d) k out->dK w (.slice (some ⟨gp,op,none⟩) ts.length c) ts->k<ts.length ->
 Calls Tryz.prog 55 #[.agg #[.slice (some ⟨gp,op,none⟩) ts.length c,.int .i64 (k:Nat),.int .i64 (0:Nat),.int .i64 (0:Nat)],.int .i64 (d:Nat)] w (dP (.slice (some ⟨gp,op,none⟩) ts.length c) ts.length (ts.length+3 - k) out w)
theorem OC:(Tryz.prog.info? 132).map (fun i=>(i.zero,i.size,i.bytes))=some (some (.agg #[.int .u8 0,.int .u8 0,.int .u8 0,.int .u8 0,.slice none 0 0,.slice none 0 0]),6,56):=by kernel_rfl
theorem nR:mU Tryz.prog 68 132 6 56:=eX Tryz.underlying68 OC (by rfl) (by decide)
theorem uC (q:az) (m:Mk) (t e:az):aS (q.snoc m t e)=aS q ++ aS (.cons m t e .nil):=by
 induction q with
 | nil=>rfl
 | cons m' t' e' r _ _ ih=>show aS (.cons m' t' e' (r.snoc m t e))=_;simp only [aS,ih,List.append_assoc,List.cons_append]
theorem Ab (a:Option Ex) (t:az):aS (.cons ⟨9,0,0,0,a,none⟩ t .nil .nil)=gN ⟨9,0,0,0,a,none⟩ :: (aS t ++ [noMark]):=by simp [aS]
theorem qi (a:Option Ex) (t e:az):aS (.cons ⟨8,0,0,0,a,none⟩ t e .nil)=gN ⟨8,0,0,0,a,none⟩ :: (aS t ++ noMark :: (aS e ++ [noMark])):=by simp [aS]
def Gb.ex:Gb->Nat
 | .block _=>2
 | .more _ _=>1
 | .stmt _=>0
def Gb.pre:Gb->Nat
 | .more _ q=>(aS q).length
 | _=>0
theorem K8 {ts:List Lex.Tok} {m:Mk} {k k':Nat} (h:bH ts k = .ok m k'):m.kind≠8/\m.kind≠9:=by
 have hc:∀ kd r k m k',bJ ts kd r k = .ok m k' -> m.kind=kd:=fun kd r k m k' h=>by
  unfold bJ at h;obtain ⟨_,_,_,h⟩:=aJ h;obtain ⟨_,_,_,h⟩:=aJ h;obtain ⟨_,_,_,h⟩:=aJ h;obtain ⟨_,_,_,h⟩:=aJ h;obtain ⟨_,_,_,h⟩:=aJ h;obtain ⟨_,_,_,h⟩:=aJ h;obtain ⟨_,_,rfl⟩:=map_ok h
  rfl
 have key:∀ kd r k,kd≠8->kd≠9->bJ ts kd r k = .ok m k' -> m.kind≠8/\m.kind≠9:=fun kd r k h8 h9 h=>by rw [hc kd r k m k' h];exact ⟨h8,h9⟩
 unfold bH at h
 split at h
 ·exact key _ _ _ (by decide) (by decide) h
 ·split at h
  ·exact key _ _ _ (by decide) (by decide) h
  ·obtain ⟨r,_,_,h⟩:=aJ h
   obtain ⟨_,k2,_,h⟩:=aJ h;unfold qD at h
   (repeat' split at h)
   ·exact key _ _ _ (by decide) (by decide) h
   ·exact key _ _ _ (by decide) (by decide) h
   ·exact key _ _ _ (by decide) (by decide) h
   ·exact key _ _ _ (by decide) (by decide) h
   ·obtain ⟨_,_,_,h⟩:=aJ h
    obtain ⟨_,_,rfl⟩:=map_ok h;exact ⟨by show (1:Nat)≠8;decide,by show (1:Nat)≠9;decide⟩
theorem uD {ts:List Lex.Tok} {m:Mk} {k k':Nat} (h:bH ts k = .ok m k'):aS (.cons m .nil .nil .nil)=[gN m]:=by
 obtain ⟨h8,h9⟩:=K8 h;simp only [aS,if_neg h8,if_neg h9,List.append_nil]
theorem eF {ts:List Lex.Tok} (hG:gM ts) {k:Nat} (hk:k<ts.length) {s:List UInt8} (hs:s ≠ []) (h:aj ts k=s):k+1<ts.length:=hG.good.more k hk fun h0=>hs (by rw [<- h];exact hG.fin k h0)
theorem DN {ts:List Lex.Tok} (hG:gM ts) {k:Nat} (hk:k<ts.length) (h:aj ts k=uj \/ aj ts k=eB):k+1<ts.length:=by
 rcases h with h | h
 ·exact eF hG hk (by decide) h
 ·exact eF hG hk (by decide) h
theorem BV {ts:List Lex.Tok} (hG:gM ts) {k:Nat} (hk:k<ts.length) (h:aj ts k=jd):k+1<ts.length:=eF hG hk (by decide) h
theorem DR {ts:List Lex.Tok} (hG:gM ts) {g:Gb} {k:Nat} {out:Out az} (h:Bx ts g k out):k<ts.length->∀ a k1,out = .ok a k1->(aS a).length+k+g.ex<=k1+g.pre/\k<k1/\k1<ts.length:=by
 induction h with
 | none _=>intro _ a k1 h;cases h
 | deep _ _=>intro _ a k1 h;cases h
 | @block d k out h1 h2 h3 ih =>
  intro hk a k1 h;have hkn:k+1<ts.length:=hG.good.more k hk (by show au ts k≠0;rw [gW hG ⟨123,[],rfl,by decide⟩ h1];decide);obtain ⟨s1,s2,s3⟩:=ih hkn a k1 h;simp only [Gb.pre,Gb.ex,aS,List.length_nil] at s1 ⊢
  exact ⟨by omega,by omega,s3⟩
 | @close d k q h1 =>
  intro hk a k1 h;injection h with h h2;subst h h2;have hkn:k+1<ts.length:=hG.good.more k hk (by show au ts k≠0;rw [gW hG ⟨125,[],rfl,by decide⟩ h1];decide);exact ⟨by simp only [Gb.pre,Gb.ex];omega,by omega,hkn⟩
 | step _ _ _ ih1 ih2 =>
  intro hk a k1 h;obtain ⟨s1,s2,s3⟩:=ih1 hk _ _ rfl;obtain ⟨t1,t2,t3⟩:=ih2 s3 a k1 h;simp only [Gb.pre,Gb.ex,uC,List.length_append] at s1 t1 ⊢
  exact ⟨by omega,by omega,t3⟩
 | nN _ _ _=>intro _ a k1 h;cases h
 | @flat d k _ _ =>
  intro hk a k1 h;obtain ⟨m,h2,rfl⟩:=map_ok h;have hi:=Dh hG.good hk (Nat.le_refl _) m k1 h2;rw [uD h2];simp only [Gb.pre,Gb.ex,List.length_cons,List.length_nil]
  exact ⟨by omega,by omega,hi.2⟩
 | gJ _ _=>intro _ a k1 h;cases h
 | gK _ _ _ _=>intro _ a k1 h;cases h
 | @loop d k k1 k2 a t h1 h2 _ ih =>
  intro hk a' k' h;injection h with h h0;subst h h0;have hkn:=DN hG hk (.inr h1);have hi:=vz hG.good hkn (Nat.le_refl _) a k1 h2;obtain ⟨s1,s2,s3⟩:=ih hi.2 _ _ rfl;rw [Ab];simp only [Gb.pre,Gb.ex,List.length_cons,List.length_append,List.length_nil] at s1 ⊢
  exact ⟨by omega,by omega,s3⟩
 | @cond d k k1 k2 a t h1 h2 _ _ ih =>
  intro hk a' k' h;injection h with h h0;subst h h0;have hkn:=DN hG hk (.inl h1);have hi:=vz hG.good hkn (Nat.le_refl _) a k1 h2;obtain ⟨s1,s2,s3⟩:=ih hi.2 _ _ rfl;rw [qi];simp only [Gb.pre,Gb.ex,aS,List.length_cons,List.length_append,List.length_nil] at s1 ⊢
  exact ⟨by omega,by omega,s3⟩
 | @other d k k1 k2 a t out h1 h2 _ h6 _ ih ih2 =>
  intro hk a' k' h;obtain ⟨e,h3,rfl⟩:=map_ok h;have hkn:=DN hG hk (.inl h1);have hi:=vz hG.good hkn (Nat.le_refl _) a k1 h2;obtain ⟨s1,s2,s3⟩:=ih hi.2 _ _ rfl;have hkn2:=BV hG s3 h6;obtain ⟨t1,t2,t3⟩:=ih2 hkn2 _ _ h3;rw [qi];simp only [Gb.pre,Gb.ex,List.length_cons,List.length_append,List.length_nil] at s1 t1 ⊢
  exact ⟨by omega,by omega,t3⟩
end Go.Proofs.YtaanhmndeobgbaaGreatDoor.fT
