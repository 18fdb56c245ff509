/- Part 41 of the proof: what is used of the texts PrsV. -/
import Derived.Test.YtaanhmndeobgbaaGreatDoorGD2
import Derived.Test.YtaanhmndeobgbaaGreatDoorGD9
import Derived.Test.YtaanhmndeobgbaaGreatDoorGB3
import Derived.Defers
import Derived.Recover
import Derived.Laws.Pointers
set_option maxRecDepth 100000
set_option maxHeartbeats 4000000
namespace Go.Proofs.YtaanhmndeobgbaaGreatDoor.fT
open Go.RowKit Mem Go.Proofs.YtaanhmndeobgbaaGreatDoor.Expr Prog
open Lex (Tok jA cO iO)
theorem rT {P:Program} {w:World} {o:Oper} {a:Act} {Y:Value->World->Prop} {Z:List PanicEntry->World->Prop} (s x:Operand) (t:TypeId)
  (ho:o.op = .call { callee:=.builtin .append,args:=#[s,x],argTypes:=#[t,t] })
  (base:Nat) (e:TypeId) (i:TypeInfo) (z:Value) (size bytes:Nat) (ht:P.underlying t=some (.slice e)) (hi:P.info? e=some i) (hz:i.zero=some z)
  (hsize:i.size=size) (hby:i.bytes=bytes) (hzs:z.cells.size=size) (hsz:0<size)
  (v:Value) (n:Nat) (xs:List Value) (hs:a.eval s=v) (hown:w.ownsRow base e size v n xs)
  (ad:Addr) (m c:Nat) (news:List Value) (hx:a.eval x = .slice (some ad) m c) (hl:news.length=m * size) (hnews:∀ j u,news[j]? = some u->w.cell? (ad.add j)=some u) (h1:∀ u ∈ news,u.oneCell' = true)
  (hm:0<m) (h63:n+m<=maxLen) (hbytes:(n+m) * bytes<=140737488355328) (hbase:base<=w.heap.size) (H:Nat) (hH:w.heap.size=H)
  (h:∀ g cap w',w'.ownsRow base e size (.slice (some ⟨g,0,none⟩) (n+m) cap) (n+m) (xs ++ news)->w.grownBy w' v.ownBlock->(v.ownBlock=some g \/ g=H)->g<w'.heap.size->Y (.slice (some ⟨g,0,none⟩) (n+m) cap) w') :
  ae.dW P Y Z ((execOp a.eval o).run P w):=by
 obtain ⟨g,cap,w',hr,h2,h3,h4,h5⟩:=run_append_lies (P:=P) w t o.type base e i z size bytes ht hi hz hsize hby hzs hsz v n xs hown ad m c news hl hnews h1 hm h63 hbytes hbase H hH;unfold execOp;simp only [ho,resolve,invoke,builtin,Sem.run_bind,Sem.run_pure,Result.andThen_ok,List.map_toArray,List.map_cons,List.map_nil,hs,hx,hr]
 exact h g cap w' h2 h3 h4 h5
theorem JK {W:World} {g:Nat} {t:TypeId} {cs:List Value} (h:Sits W g t cs.toArray):∀ j u,cs[j]? = some u->W.cell? ((⟨g,0,none⟩:Addr).add j)=some u:=by
 intro j u hj;have e:(⟨g,0,none⟩:Addr).add j=⟨g,j,none⟩:=by unfold Addr.add;by_cases h:j=0 <;> simp [h]
 rw [e,h.cell];simpa using hj
theorem Rm:(Tryz.prog.info? 78).map (fun i=>(i.zero,i.size,i.bytes))=some (some (.agg #[.int .u8 0,.int .u64 0]),2,16):=by kernel_rfl
theorem Rn:(Tryz.prog.info? 80).map (fun i=>(i.zero,i.size,i.bytes))=some (some (.slice none 0 0),1,24):=by kernel_rfl
theorem vP:(Tryz.prog.info? 27).map (·.size)=some 4:=by kernel_rfl
theorem OT (x:Nat × Nat):∀ u ∈ aX x,u.oneCell' = true:=by
 intro u hu;simp only [aX,List.mem_cons,List.not_mem_nil,or_false] at hu
 rcases hu with rfl | rfl <;> rfl
structure dw {α:Type} (pb:Value) (v0 pr:Value) (te:TypeId) (val:α->Value) (cells:α->List Value) (P0:World->Prop) (P1:α->World->Prop) (P3:α->Value->World->Prop) (d:Nat->Bool) (xs:Nat->Value) (W:World):Prop where
 x0:d 0=true->xs 0=pb
 x1:d 1=true->xs 1=v0
 x2:d 2=true->xs 2=pr
 x6:d 6=true->xs 6=pb
 ph:(d 3=false/\d 4=false/\d 5=false/\P0 W) \/ (d 3=true/\d 4=false/\d 5=false/\∃ a,xs 3=val a/\P1 a W) \/
  (d 3=true/\d 4=true/\d 5=false/\∃ a gn,xs 4 = .slice (some ⟨gn,0,none⟩) 1 1/\Sits W gn te (cells a).toArray/\P1 a W) \/ (d 3=true/\d 4=true/\d 5=true/\d 1=true/\∃ a,P3 a (xs 5) W)
section
variable {α : Type} {pb v0 pr : Value} {te : TypeId} {val : α → Value} {cells : α → List Value} {P0 : World → Prop} {P1 : α → World → Prop} {P3 : α → Value → World → Prop} {d : Nat → Bool} {xs : Nat → Value} {W W' : World}
theorem dw.loc:ae.Local 7 (dw pb v0 pr te val cells P0 P1 P3):=by
 intro d d' xs xs' w hd hx h;have e:∀ i,i<7->d' i=d i:=fun i hi=>(hd i hi).symm
 have f:∀ i,i<7->xs' i=xs i:=fun i hi=>(hx i hi).symm
 obtain ⟨h0,h1,h2,h6,ph⟩:=h;refine ⟨?_,?_,?_,?_,?_⟩
 ·rw [e 0 (by decide),f 0 (by decide)];exact h0
 ·rw [e 1 (by decide),f 1 (by decide)];exact h1
 ·rw [e 2 (by decide),f 2 (by decide)];exact h2
 ·rw [e 6 (by decide),f 6 (by decide)];exact h6
 ·rw [e 1 (by decide),e 3 (by decide),e 4 (by decide),e 5 (by decide),f 3 (by decide),f 4 (by decide),f 5 (by decide)];exact ph
theorem dw.start (h:P0 W) (xs:Nat->Value):dw pb v0 pr te val cells P0 P1 P3 (fun _=>false) xs W :=
 ⟨fun h=>(by cases h),fun h=>(by cases h),fun h=>(by cases h),fun h=>(by cases h),.inl ⟨rfl,rfl,rfl,h⟩⟩
theorem dw.SQ (h:dw pb v0 pr te val cells P0 P1 P3 d xs W):dw pb v0 pr te val cells P0 P1 P3 (ae.bU d 0) (ae.dE xs 0 pb) W:=by
 obtain ⟨h0,h1,h2,h6,ph⟩:=h;exact ⟨fun _=>rfl,by simpa [ae.bU,ae.dE] using h1,by simpa [ae.bU,ae.dE] using h2,by simpa [ae.bU,ae.dE] using h6,by simpa [ae.bU,ae.dE] using ph⟩
theorem dw.SS (h:dw pb v0 pr te val cells P0 P1 P3 d xs W) (hd:d 1=false):dw pb v0 pr te val cells P0 P1 P3 (ae.bU d 1) (ae.dE xs 1 v0) W:=by
 obtain ⟨h0,h1,h2,h6,ph⟩:=h;refine ⟨by simpa [ae.bU,ae.dE] using h0,fun _=>rfl,by simpa [ae.bU,ae.dE] using h2,by simpa [ae.bU,ae.dE] using h6,?_⟩;rcases ph with ph | ph | ph | ⟨_,_,_,h,_⟩
 ·exact .inl (by simpa [ae.bU,ae.dE] using ph)
 ·exact .inr (.inl (by simpa [ae.bU,ae.dE] using ph))
 ·exact .inr (.inr (.inl (by simpa [ae.bU,ae.dE] using ph)))
 ·rw [hd] at h;cases h
theorem dw.SV (h:dw pb v0 pr te val cells P0 P1 P3 d xs W):dw pb v0 pr te val cells P0 P1 P3 (ae.bU d 2) (ae.dE xs 2 pr) W:=by
 obtain ⟨h0,h1,h2,h6,ph⟩:=h;exact ⟨by simpa [ae.bU,ae.dE] using h0,by simpa [ae.bU,ae.dE] using h1,fun _=>rfl,by simpa [ae.bU,ae.dE] using h6,by simpa [ae.bU,ae.dE] using ph⟩
theorem dw.SX (h:dw pb v0 pr te val cells P0 P1 P3 d xs W):dw pb v0 pr te val cells P0 P1 P3 (ae.bU d 6) (ae.dE xs 6 pb) W:=by
 obtain ⟨h0,h1,h2,h6,ph⟩:=h;exact ⟨by simpa [ae.bU,ae.dE] using h0,by simpa [ae.bU,ae.dE] using h1,by simpa [ae.bU,ae.dE] using h2,fun _=>rfl,by simpa [ae.bU,ae.dE] using ph⟩
theorem dw.called (h:dw pb v0 pr te val cells P0 P1 P3 d xs W) (hd:d 3=false) (a:α) (hp:P1 a W'):dw pb v0 pr te val cells P0 P1 P3 (ae.bU d 3) (ae.dE xs 3 (val a)) W':=by
 obtain ⟨h0,h1,h2,h6,ph⟩:=h;have ph:d 4=false/\d 5=false:=by
  rcases ph with ⟨_,a,b,_⟩ | ⟨h,_⟩ | ⟨h,_⟩ | ⟨h,_⟩
  ·exact ⟨a,b⟩
  all_goals rw [hd] at h;cases h
 exact ⟨by simpa [ae.bU,ae.dE] using h0,by simpa [ae.bU,ae.dE] using h1,by simpa [ae.bU,ae.dE] using h2,by simpa [ae.bU,ae.dE] using h6,.inr (.inl ⟨by simp [ae.bU],by simpa [ae.bU] using ph.1,by simpa [ae.bU] using ph.2,a,rfl,hp⟩)⟩
theorem dw.before (h:dw pb v0 pr te val cells P0 P1 P3 d xs W) (hd:d 3=false):P0 W:=by
 rcases h.ph with ⟨_,_,_,h⟩ | ⟨h,_⟩ | ⟨h,_⟩ | ⟨h,_⟩
 ·exact h
 all_goals rw [hd] at h;cases h
theorem dw.has (h:dw pb v0 pr te val cells P0 P1 P3 d xs W) (h3:d 3=true) (h4:d 4=false):∃ a,xs 3=val a/\P1 a W:=by
 rcases h.ph with ⟨h,_⟩ | ⟨_,_,_,h⟩ | ⟨_,h,_⟩ | ⟨_,h,_⟩
 ·rw [h3] at h;cases h
 ·exact h
 all_goals rw [h4] at h;cases h
theorem dw.built (h:dw pb v0 pr te val cells P0 P1 P3 d xs W) (h3:d 3=true) (h4:d 4=false) (a:α) (gn:Nat) (hs:Sits W' gn te (cells a).toArray) (hp:P1 a W'):dw pb v0 pr te val cells P0 P1 P3 (ae.bU d 4) (ae.dE xs 4 (.slice (some ⟨gn,0,none⟩) 1 1)) W':=by
 obtain ⟨h0,h1,h2,h6,ph⟩:=h;have ph:d 5=false:=by
  rcases ph with ⟨_,_,b,_⟩ | ⟨_,_,h,_⟩ | ⟨_,h,_⟩ | ⟨_,h,_⟩
  ·exact b
  ·exact h
  all_goals rw [h4] at h;cases h
 exact ⟨by simpa [ae.bU,ae.dE] using h0,by simpa [ae.bU,ae.dE] using h1,by simpa [ae.bU,ae.dE] using h2,by simpa [ae.bU,ae.dE] using h6,.inr (.inr (.inl ⟨by simpa [ae.bU] using h3,by simp [ae.bU],by simpa [ae.bU] using ph,a,gn,rfl,hs,hp⟩))⟩
theorem dw.lies (h:dw pb v0 pr te val cells P0 P1 P3 d xs W) (h4:d 4=true) (h5:d 5=false):d 3=true/\∃ a gn,xs 4 = .slice (some ⟨gn,0,none⟩) 1 1/\Sits W gn te (cells a).toArray/\P1 a W:=by
 rcases h.ph with ⟨_,h,_⟩ | ⟨_,h,_⟩ | ⟨h3,_,_,h⟩ | ⟨_,_,h,_⟩
 ·rw [h4] at h;cases h
 ·rw [h4] at h;cases h
 ·exact ⟨h3,h⟩
 ·rw [h5] at h;cases h
theorem dw.added (h:dw pb v0 pr te val cells P0 P1 P3 d xs W) (hd1:d 1=true) (h3:d 3=true) (h4:d 4=true) (a:α) (v:Value) (hp:P3 a v W'):dw pb v0 pr te val cells P0 P1 P3 (ae.bU d 5) (ae.dE xs 5 v) W':=by
 obtain ⟨h0,h1,h2,h6,_⟩:=h;exact ⟨by simpa [ae.bU,ae.dE] using h0,by simpa [ae.bU,ae.dE] using h1,by simpa [ae.bU,ae.dE] using h2,by simpa [ae.bU,ae.dE] using h6,.inr (.inr (.inr ⟨by simpa [ae.bU] using h3,by simpa [ae.bU] using h4,by simp [ae.bU],by simpa [ae.bU] using hd1,a,hp⟩))⟩
theorem dw.end' (h:dw pb v0 pr te val cells P0 P1 P3 (fun _=>true) xs W):xs 6=pb/\∃ a,P3 a (xs 5) W:=by
 refine ⟨h.x6 rfl,?_⟩;rcases h.ph with ⟨h,_⟩ | ⟨_,h,_⟩ | ⟨_,_,h,_⟩ | ⟨_,_,_,_,h⟩
 ·cases h
 ·cases h
 ·cases h
 ·exact h
end
section
variable {gR gp cap : Nat} {ts : List Lex.Tok}
theorem lZ {k:Nat} {l:List (Nat × Nat)} {out:Out Ts} (h:Tx ts (.inits l) k out):(aj ts k=nM/\∃ x k1,dC ts (k+1) = .ok x k1/\Tx ts (.inits (l ++ [x])) k1 out) \/ (aj ts k=nM/\∃ j er,dC ts (k+1) = .bad j er/\out = .bad j er) \/ (aj ts k≠nM/\Tx ts (.threads l []) k out):=by
 cases h with
 | init h1 h2 h3=>exact .inl ⟨h1,_,_,h2,h3⟩
 | pQ h1 h2=>exact .inr (.inl ⟨h1,_,_,h2,rfl⟩)
 | inited h1 h2=>exact .inr (.inr ⟨h1,h2⟩)
theorem iN {k:Nat} {l:List (Nat × Nat)} {q:List az} {out:Out Ts} (h:Tx ts (.threads l q) k out):(aj ts k=eT/\4<=q.length/\out = .bad k 4) \/
  (aj ts k=eT/\q.length<4/\∃ o1,Bx ts (.block 1) (k+1) o1/\((∃ j er,o1 = .bad j er/\out = .bad j er) \/ ∃ b k1,o1 = .ok b k1/\Tx ts (.threads l (q ++ [b])) k1 out)) \/ (aj ts k≠eT/\out=uk ts l q k):=by
 cases h with
 | many h1 h2=>exact .inl ⟨h1,h2,rfl⟩
 | thread h1 h2 h3 h4=>exact .inr (.inl ⟨h1,h2,_,h3,.inr ⟨_,_,rfl,h4⟩⟩)
 | kF h1 h2 h3=>exact .inr (.inl ⟨h1,h2,_,h3,.inl ⟨_,_,rfl,rfl⟩⟩)
 | ask h1=>exact .inr (.inr ⟨h1,rfl⟩)
def FT (gR:Nat) (ts:List Lex.Tok) (o:Out Ts) (w:World) (e:Ending) (w':World):Prop :=
 aa (fun x=>x=gR) w w' /\ match o with
  | .ok t _=>∃ vi vt pa,e = .returned (eU vi vt t.all (.pointer pa))/\uB (fun g=>w.heap.size<=g) w' t vi vt (.pointer pa)
  | .bad j er=>e = .panicked (GM (tk ts j) er)
theorem Li (hp:gM ts):∀ (n k:Nat),ts.length - k<=n->Ou gR gp cap ts k/\DI gR gp cap ts k:=by
 intro n;induction n with
 | zero=>exact fun k hk=>⟨fun _ _ _ _ _ h=>absurd h.lt (by omega),fun _ _ _ _ _ h=>absurd h.lt (by omega)⟩
 | succ n ih =>
  intro k hk;by_cases hlt:k<ts.length
  ·have hb:=Oy (gR:=gR) (gp:=gp) (cap:=cap) hp k fun k' hk'=>(ih k' (by omega)).1
   exact ⟨Ov hp k fun k' hk'=>(ih k' (by omega)).2,hb⟩
  ·exact ⟨fun _ _ _ _ _ h=>absurd h.lt hlt,fun _ _ _ _ _ h=>absurd h.lt hlt⟩
theorem Ip (hp:gM ts) (k:Nat):DI gR gp cap ts k:=(Li hp _ k (Nat.le_refl _)).2
structure Env (w:World) (gR gp cap:Nat) (ts:List Lex.Tok) (g2 g3:Nat) (l:List (Nat × Nat)) (q:List az) (vi vt:Value) (k:Nat) (W:World):Prop where
 tm:z8 w gR g3 l q false none vi vt none W
 rd:Rd W gR gp cap ts k
 res:Sits W g2 27 bV
 Xk:∃ k0,Rd w gR gp cap ts k0
 e2:g2=w.heap.size
 e3:g2<g3
section
variable {w W W' : World} {g2 g3 k k' : Nat} {l : List (Nat × Nat)} {q : List az} {vi vt : Value}
theorem Env.below (h:Env w gR gp cap ts g2 g3 l q vi vt k W) (hb:Below W.heap.size W W'):Env w gR gp cap ts g2 g3 l q vi vt k W':=⟨h.tm.below hb,h.rd.below hb,h.res.below hb h.res.lt,h.Xk,h.e2,h.e3⟩
theorem Env.keepR (h:Env w gR gp cap ts g2 g3 l q vi vt k W) (hk:aa (fun x=>x=gR) W W') (hr:Rd W' gR gp cap ts k'):Env w gR gp cap ts g2 g3 l q vi vt k' W' :=
 ⟨h.tm.keepR h.rd hk,hr,h.res.keep hk (by have:=h.e2;have:=h.tm.lt;omega),h.Xk,h.e2,h.e3⟩
theorem Env.FP {X:Nat->Prop} (h:Env w gR gp cap ts g2 g3 l q vi vt k W) (hk:aa X W W') (hX:∀ x,X x->w.heap.size<=x):Rd W' gR gp cap ts k:=by
 obtain ⟨k0,h0⟩:=h.Xk;have Yc:gp<w.heap.size:=World.block_lt_of_cell? _ _ (h0.at h0.lt).1;have Ux:gp<W.heap.size:=World.block_lt_of_cell? _ _ (h.rd.at h.rd.lt).1;refine ⟨h.rd.box.keep hk (fun e=>by have:=hX gR e;have:=h.tm.lt;omega),fun j i u hj hu=>?_,h.rd.lt,h.rd.cap,h.rd.few,h.rd.far,h.rd.good,h0.Fb (Eu h.tm.low hk fun x e => .inr (hX x e))⟩;rw [World.cell?_of_block (hk.block gp Ux (fun e=>by have:=hX gp e;omega))];exact h.rd.row j i u hj hu
theorem Env.OA {qG:Value} {x:Nat × Nat} (h:Env w gR gp cap ts g2 g3 l [] vi vt k W) (hk:aa (fun x=>vi.ownBlock=some x) W W') (hown:W'.ownsRow w.heap.size 78 2 qG (l.length+1) (l.flatMap aX ++ aX x)) :
  Env w gR gp cap ts g2 g3 (l ++ [x]) [] qG vt k (W'.setCell ⟨g3,0,none⟩ qG):=by
 have hbx:Sits W' g3 27 (dL vi vt false none):=h.tm.box.keep hk (aK h.tm.init h.tm.box (by decide));have hk2:aa (fun x=>vi.ownBlock=some x \/ x=g3) W (W'.setCell ⟨g3,0,none⟩ qG):=((hk.wider (Y:=fun x=>vi.ownBlock=some x \/ x=g3) fun x _ e => .inl e).put (p:=⟨g3,0,none⟩) (.inl (.inr rfl)) qG)
 have hX:∀ x,(vi.ownBlock=some x \/ x=g3)->w.heap.size<=x:=fun x e=>e.elim (fun e=>(h.tm.init.lt x e).1) (fun e=>by rw [e];exact h.tm.gB)
 refine ⟨h.tm.OA hk2 (gY hown ((aa.refl (fun x=>x=g3) W').put (p:=⟨g3,0,none⟩) (.inl rfl) qG) fun y hy e=>by subst e;exact aK hown hbx (by decide) hy) (hbx.put 0 qG),h.FP hk2 hX,h.res.keep hk2 (fun e=>e.elim (aK h.tm.init h.res (by decide)) (fun e=>by have:=h.e3;omega)),h.Xk,h.e2,h.e3⟩
theorem Env.OB {oz u:Value} {b:az} (h:Env w gR gp cap ts g2 g3 l q vi vt k W) (hu:aR (iK (w.heap.size+2) W vt g3) W b u) (hk:aa (fun x=>vt.ownBlock=some x) W W')
  {vs:List Value} (h1:W.ownsRow w.heap.size 80 1 vt q.length vs) (h2:vs.length=q.length) (h3:∀ (i:Nat) (b:az) (u:Value),q[i]? = some b->vs[i]? = some u->aR (iK (w.heap.size+2) W vt g3) W b u)
  (hown:W'.ownsRow w.heap.size 80 1 oz (q.length+1) (vs ++ [u])) (hat:∀ x,oz.ownBlock=some x->vt.ownBlock=some x \/ W.heap.size<=x):Env w gR gp cap ts g2 g3 l (q ++ [b]) vi oz k (W'.setCell ⟨g3,1,none⟩ oz):=by
 have hbx:Sits W' g3 27 (dL vi vt false none):=h.tm.box.keep hk (aK h1 h.tm.box (by decide));have hk2:aa (fun x=>vt.ownBlock=some x \/ x=g3) W (W'.setCell ⟨g3,1,none⟩ oz):=((hk.wider (Y:=fun x=>vt.ownBlock=some x \/ x=g3) fun x _ e => .inl e).put (p:=⟨g3,1,none⟩) (.inl (.inr rfl)) oz)
 have hX:∀ x,(vt.ownBlock=some x \/ x=g3)->w.heap.size<=x:=fun x e=>e.elim (fun e=>(h1.lt x e).1) (fun e=>by rw [e];exact h.tm.gB)
 refine ⟨h.tm.OB hu hk2 h1 h2 h3 (gY hown ((aa.refl (fun x=>x=g3) W').put (p:=⟨g3,1,none⟩) (.inl rfl) oz) fun y hy e=>by subst e;exact aK hown hbx (by decide) hy) hat (hbx.put 1 oz),h.FP hk2 hX,h.res.keep hk2 (fun e=>e.elim (aK h1 h.res (by decide)) (fun e=>by have:=h.e3;omega)),h.Xk,h.e2,h.e3⟩
theorem jl {P:Program} {Y Y':Value->World->Prop} {Z:List PanicEntry->World->Prop} {r:Result Next} (h:∀ u W',Y u W' -> Y' u W') (hr:ae.dW P Y Z r):ae.dW P Y' Z r:=by
 cases r with
 | ok n w =>
  cases n with
  | value v=>exact h v w hr
  | enter f args=>exact Calls.mono hr fun e w' hp=>hp.imp (fun ⟨v,e1,h1⟩=>⟨v,e1,h v w' h1⟩) id
  | skip=>exact hr
  | _=>exact hr
 | halt x w=>exact hr
def oZ (v:Value) (W:World) (u:Value) (W':World):Prop:=u=v/\W' = W
def Xl {α:Type} (val:α->Value) (P1:α->World->Prop) (v:Value) (W:World):Prop:=∃ a,v=val a/\P1 a W
theorem Ag (W:World):Below W.heap.size W W.drew:=⟨rfl,rfl,rfl,Nat.le_refl _,fun _ _=>rfl⟩
theorem Cb {v:Value} (hg:W.grownBy W' v.ownBlock):aa (fun x=>v.ownBlock=some x) W W':=⟨hg.os,hg.tape,hg.output,hg.size,fun b hb hn=>hg.block b hb (fun e=>hn e.symm)⟩
end
theorem Lj (k:Nat):((str (aj ts k)).toList == [116,104,114,101,97,100])=decide (aj ts k=eT):=zX k eT
theorem Ro (hp:gM ts) (k:Nat) (out:Out Ts) (w:World) (hx:Tx ts (.inits []) k out) (h:Rd w gR gp cap ts k):Calls Tryz.prog 12 #[.pointer (some ⟨gR,0,none⟩)] w (FT gR ts out w):=by
 have HP:=Lib.hid hp;have HX:=Lib.hid hx;have Au:=Lib.hid h;have Jf:=Lib.hid (show gp<w.heap.size from World.block_lt_of_cell? _ _ (h.at h.lt).1);have Ar:=Lib.hid (show gR<w.heap.size from h.box.lt);have HHI:=Lib.hid (fun k2 W (hr:Rd W gR gp cap ts k2)=>(lU hr nM (by decide):Calls _ _ #[_,.string (str [105,110,105,116])] W _));have og:=Lib.hid (fun k2 W (hr:Rd W gR gp cap ts k2)=>show Calls Tryz.prog 41 #[.pointer (some ⟨gR,0,none⟩)] W fun e w'=>Made (.returned (.agg #[.int .u8 (au ts k2:Nat),.string (str (aj ts k2)),.int .u64 (aT ts k2:Nat),.int .i64 (tk ts k2).line,.int .i64 (tk ts k2).xy])) W e w' from je hr);have HTK:=Lib.hid (fun k2 W (hr:Rd W gR gp cap ts k2)=>mG hr);have Yv:=Lib.hid (fun k2 W=>fw (tk ts k2) 4 W);have a0k:=Lib.hid (fun k2 W (hr:Rd W gR gp cap ts k2)=>Kw hr);have tO:=Lib.hid (fun k2 W (hr:Rd W gR gp cap ts k2)=>GU hr);have Js:=Lib.hid (fun k2 W (hr:Rd W gR gp cap ts k2)=>(mI GX hr:Calls _ _ #[_,.func (.func 47) #[.pointer (some ⟨gR,0,none⟩)] #[]] W _));have wy:=Lib.hid (fun k2 W (hr:Rd W gR gp cap ts k2)=>(fA hr [59] (by simp):Calls _ _ #[_,.string (str [59])] W _));have KZ:=Lib.hid (fun k2 W (hr:Rd W gR gp cap ts k2)=>(pI hr 0:Calls _ _ #[_,.int .u8 (0:Int)] W _));obtain ⟨i0,hi0,hz0,hz1,hz2⟩:=info_parts Rm;obtain ⟨i1,hj0,hj1,hj2,hj3⟩:=info_parts Rn;have hb:Below w.heap.size w ((w.alloc (.cells bV 27)).alloc (.cells bV 27)):=((Below.refl _ _).alloc (Nat.le_refl _) _).alloc (by simp) _
 have qF:=Lib.hid (show Env w gR gp cap ts w.heap.size (w.heap.size+1) [] [] (.slice none 0 0) (.slice none 0 0) k ((w.alloc (.cells bV 27)).alloc (.cells bV 27)) from
  ⟨⟨aa.of_below hb,h.box.lt,Sits.made (by simp) _ _,by omega,World.ownsRow_nil _ _ _ _,⟨[],World.ownsRow_nil _ _ _ _,rfl,fun i b u hb=>by simp at hb⟩,rfl,by simp⟩,h.below hb,(Sits.new _ _ _).alloc _,⟨k,h⟩,rfl,by omega⟩)
 have hft:=zb;clear h hb hp hx;go_enter Tryz.func12,Tryz.ntmps12;go_wp2_with fail
 change Code.wp _ _ _ _ ((w.alloc (.cells bV 27)).alloc (.cells bV 27));generalize (w.alloc (.cells bV 27)).alloc (.cells bV 27)=W0 at qF ⊢;generalize hg3:w.heap.size+1=g3 at qF ⊢;have HG3:=Lib.hid hg3;clear hg3;obtain ⟨g2,hg2⟩:∃ g2,g2=w.heap.size:=⟨_,rfl⟩
 have HG2:=Lib.hid hg2;rw [<- hg2] at qF;clear hg2
 go_loopg [] (ts.length - k) (fun gg wx=>∃ (k1:Nat) (l:List (Nat × Nat)) (vi:Value),gg=ts.length - k1/\Hid (Tx ts (.inits l) k1 out)/\Hid (Env w gR gp cap ts g2 g3 l [] vi (.slice none 0 0) k1 wx)/\Hid (l.length<=k1))
 case atStart=>exact ⟨k,[],.slice none 0 0,rfl,HX,qF,Lib.hid (Nat.zero_le _)⟩
 case round =>
  obtain ⟨k1,l,vi,rfl,Bz,qF,yu⟩:=hrel;have HH:=Lib.hid (HHI.out k1 _ qF.out.rd);go_wp2_with fail
  refine HH.out.mono ?_;intro e w5 hq;rcases hq with ⟨hc,rfl,hk,hr⟩ | ⟨hc,rfl,hb⟩
  ·have qF:=Lib.hid (qF.out.keepR hk hr)
   have sP:=Lib.hid (show k1+1<ts.length from hr.lt);have wh:=Lib.hid (show l.length<=5000 by have:=yu.out;have:=sP.out;have:=hr.few;omega);have HST:=Lib.hid (fun W (hr:Rd W gR gp cap ts (k1+1))=>a0k.out (k1+1) W hr);have HTI:=Lib.hid ((lZ Bz.out).imp id (fun h=>h.resolve_right fun h=>h.1 hc));clear hc hk hr HH;go_wp2_with fail
   have l5:l.length<=5000:=wh.out;obtain ⟨ZZ,hZ⟩:∃ Z:List PanicEntry->World->Prop,Z=(fun c W=>∃ j er,dC ts (k1+1) = .bad j er/\c=GM (tk ts j) er/\aa (fun x=>x=gR) w W):=⟨_,rfl⟩
   have Xm:=Lib.hid hZ;refine ae.rf [7,8,9,10,11,12,13] (dw (α:=((Nat × Nat) × Nat)) (.pointer (some ⟨g3,0,none⟩)) vi (.pointer (some ⟨gR,0,none⟩)) 78 (fun a => .agg (dh a.1.1 a.1.2)) (fun a=>aX a.1) (Env w gR gp cap ts g2 g3 l [] vi (.slice none 0 0) (k1+1)) (fun a W=>dC ts (k1+1) = .ok a.1 a.2/\Env w gR gp cap ts g2 g3 l [] vi (.slice none 0 0) a.2 W) (fun a v W=>∃ Wb,(dC ts (k1+1) = .ok a.1 a.2/\Env w gR gp cap ts g2 g3 l [] vi (.slice none 0 0) a.2 Wb)/\∃ Ah,Ah=l.flatMap aX/\W.ownsRow w.heap.size 78 2 v (l.length+1) (Ah ++ aX a.1)/\aa (fun x=>vi.ownBlock=some x) Wb W/\(∀ x,v.ownBlock=some x->vi.ownBlock=some x \/ Wb.heap.size<=x)/\∃ gg c,v = .slice (some ⟨gg,0,none⟩) (l.length+1) c)) ZZ dw.loc (by kernel_rfl) (by kernel_rfl) (by kernel_rfl) (by kernel_rfl) (by rfl) (fun xs=>dw.start (qF.out.below (Ag _)) xs) ?_ ?_ ?_
   ·clear hZ
    intro i o' hi ho d A W hI hd hk he;simp only [List.length_cons,List.length_nil,Nat.zero_add,Nat.reduceAdd] at hi
    refine .inl ⟨?_,?_⟩
    ·obtain rfl | rfl | rfl | rfl | rfl | rfl | rfl:i=0 \/ i=1 \/ i=2 \/ i=3 \/ i=4 \/ i=5 \/ i=6:=by omega
     all_goals (injection ho with ho;subst ho;kernel_rfl)
    have HI:=Lib.hid hI;obtain rfl | rfl | rfl | rfl | rfl | rfl | rfl:i=0 \/ i=1 \/ i=2 \/ i=3 \/ i=4 \/ i=5 \/ i=6:=by omega
    all_goals (injection ho with ho;subst ho)
    ·have t3:A.tmps[3]?.getD undef = .pointer (some ⟨g3,0,none⟩):=hk 3 (by rfl)
     refine jl (Y:=oZ (.pointer (some ⟨g3,0,none⟩)) W) (fun u W' h=>by obtain ⟨rfl,rfl⟩:=h;exact HI.out.SQ) ?_;clear hI he;go_simp
     exact ⟨rfl,rfl⟩
    ·have s0:A.tmps[7]?.getD undef = .pointer (some ⟨g3,0,none⟩):=hI.x0 (he 0 (by kernel_rfl))
     have cc:W.cell? ⟨g3,0,none⟩=some vi:=by
      rcases hI.ph with ⟨_,_,_,h⟩ | ⟨_,_,_,a,_,h⟩ | ⟨_,_,_,a,gn,_,_,h⟩ | ⟨_,_,_,h,_⟩
      ·exact h.tm.box.cell 0
      ·exact h.2.tm.box.cell 0
      ·exact h.2.tm.box.cell 0
      ·rw [hd] at h;cases h
     have HD:=Lib.hid hd;refine jl (Y:=oZ vi W) (fun u W' h=>by obtain ⟨rfl,rfl⟩:=h;exact HI.out.SS HD.out) ?_;clear hI he hd;go_simp
     exact ⟨rfl,rfl⟩
    ·have t0:A.tmps[0]?.getD undef = .pointer (some ⟨gR,0,none⟩):=hk 0 (by rfl)
     refine jl (Y:=oZ (.pointer (some ⟨gR,0,none⟩)) W) (fun u W' h=>by obtain ⟨rfl,rfl⟩:=h;exact HI.out.SV) ?_;clear hI he;go_simp
     exact ⟨rfl,rfl⟩
    ·have s2:A.tmps[9]?.getD undef = .pointer (some ⟨gR,0,none⟩):=hI.x2 (he 2 (by kernel_rfl))
     have SY:=Lib.hid (hI.before hd);have HD:=Lib.hid hd;obtain ⟨Y,hY⟩:∃ Y:Value->World->Prop,Y=Xl (α:=((Nat × Nat) × Nat)) (fun a => .agg (dh a.1.1 a.1.2)) (fun a W=>dC ts (k1+1) = .ok a.1 a.2/\Env w gR gp cap ts g2 g3 l [] vi (.slice none 0 0) a.2 W):=⟨_,rfl⟩
     have HY:=Lib.hid hY;refine jl (Y:=Y) (fun u W' h=>by rw [HY.out] at h;obtain ⟨a,rfl,h⟩:=h;exact HI.out.called HD.out a h) ?_;clear hI he hd hY;go_simp
     refine (HST.out W SY.out.rd).mono ?_;rintro e w5 ⟨hk5,Ga⟩;cases Ji:dC ts (k1+1) with
     | ok x k2 =>
      rw [Ji] at Ga;exact .inl ⟨_,Ga.1,by rw [HY.out];exact ⟨(x,k2),rfl,Ji,SY.out.keepR hk5 Ga.2⟩⟩
     | bad j er =>
      rw [Ji] at Ga;exact .inr ⟨_,Ga,by rw [Xm.out];exact ⟨j,er,Ji,rfl,SY.out.tm.low.trans hk5⟩⟩
    ·have h3:=he 3 (by kernel_rfl)
     obtain ⟨a,s3,hp1⟩:=hI.has h3 hd;have s3:A.tmps[10]?.getD undef=(fun a => .agg (dh a.1.1 a.1.2)) a:=s3;have F8:=Lib.hid hp1;have HD:=Lib.hid (show d 3=true/\d 4=false from ⟨h3,hd⟩);refine jl (Y:=oZ (.slice (some ⟨W.heap.size,0,none⟩) 1 1) (W.alloc (.cells ((fun a=>aX a.1) a).toArray 78))) (fun u W' h=>by obtain ⟨rfl,rfl⟩:=h;exact HI.out.built HD.out.1 HD.out.2 a W.heap.size (Sits.new _ _ _) ⟨F8.out.1,F8.out.2.below ((Below.refl _ _).alloc (Nat.le_refl _) _)⟩) ?_;clear hI he hd h3 hp1;simp only [dh] at s3
     go_simp
     exact ⟨rfl,rfl⟩
    ·have h1:=he 1 (by kernel_rfl)
     have h4:=he 4 (by kernel_rfl);have s1:A.tmps[8]?.getD undef=vi:=hI.x1 h1;obtain ⟨h3,a,gn,s4,hsn,hp1⟩:=hI.lies h4 hd;have s4:A.tmps[11]?.getD undef = .slice (some ⟨gn,0,none⟩) 1 1:=s4;have Q9:=hp1.2.tm.low.size;obtain ⟨Ah,hown,hxx⟩:=(show ∃ Ah,W.ownsRow w.heap.size 78 2 vi l.length Ah/\Ah=l.flatMap aX from ⟨_,hp1.2.tm.init,rfl⟩)
     refine rT (.tmp 8) (.tmp 11) 23 rfl w.heap.size 78 i0 _ 2 16 Tryz.underlying23 hi0 hz0 hz1 hz2 rfl (by omega) vi _ Ah ((ae.aU A 8).trans s1) hown ⟨gn,0,none⟩ 1 1 ((fun a=>aX a.1) a) ((ae.aU A 11).trans s4) rfl (JK hsn) (OT _)
      (by omega) (by unfold maxLen;omega) (by omega) Q9 W.heap.size rfl ?_
     intro gg cap' w1 hown1 hgrow hat hlt1
     exact HI.out.added h1 h3 h4 a _ ⟨W,hp1,Ah,hxx,hown1,Cb hgrow,fun x hx=>(by
      have:gg=x:=by simpa [Value.ownBlock] using hx
      subst this
      exact hat.imp id fun e=>by omega),gg,cap',rfl⟩
    ·have t3:A.tmps[3]?.getD undef = .pointer (some ⟨g3,0,none⟩):=hk 3 (by rfl)
     refine jl (Y:=oZ (.pointer (some ⟨g3,0,none⟩)) W) (fun u W' h=>by obtain ⟨rfl,rfl⟩:=h;exact HI.out.SX) ?_;clear hI he;go_simp
     exact ⟨rfl,rfl⟩
   ·intro c A W hdf hzz
    rw [Xm.out] at hzz;obtain ⟨j,er,h1,h2,h3⟩:=hzz;refine ⟨hdf,?_⟩;rcases HTI.out with ⟨_,x,k2,h4,_⟩ | ⟨_,j2,er2,h4,rfl⟩
    ·rw [h1] at h4;cases h4
    ·rw [h1] at h4
     injection h4 with e1 e2;subst e1 e2 h2;exact ⟨h3,rfl⟩
   ·intro xs W hI
    obtain ⟨e6,a,Wb,⟨hin,Bb⟩,Ah,rfl,hown,hk,hat,gg,c,e5⟩:=hI.end';have hbx:Sits W g3 27 (dL vi (.slice none 0 0) false none):=Bb.tm.box.keep hk (aK Bb.tm.init Bb.tm.box (by decide));have c0:=hbx.c0;have f0:=hbx.free 0;have l0:=hbx.lt;rw [e5] at hown;have HNW:=Lib.hid (Bb.OA hk hown)
    have HTN:Hid (Tx ts (.inits (l ++ [a.1])) a.2 out):=Lib.hid (by
     rcases HTI.out with ⟨_,x,k2,h4,h5⟩ | ⟨_,j2,er2,h4,_⟩
     ·rw [hin] at h4
      injection h4 with e1 e2;subst e1 e2;exact h5
     ·rw [hin] at h4;cases h4)
    have YD:=Lib.hid (show k1+1<a.2/\a.2<ts.length by have:=Jv HP.out sP.out hin;omega);simp only [ae.gZ,e5,e6]
    clear hI hown hk hat e5 e6 hbx Bb hin;go_wp2_with fail
    go_roundg (ts.length - a.2)
    case measure=>have:=YD.out;omega
    case rel=>exact ⟨a.2,l ++ [a.1],_,rfl,HTN,HNW,Lib.hid (by have:=YD.out;have:=yu.out;simp;omega)⟩
  ·have qF:=Lib.hid (qF.out.below hb)
   have Sj:=Lib.hid (((lZ Bz.out).resolve_left (fun h=>hc h.1)).resolve_left (fun h=>hc h.1)).2;have wh:=Lib.hid (show l.length<=5000 by have:=yu.out;have:=qF.out.rd.lt;have:=qF.out.rd.few;omega);clear hc hb HH Bz;go_wp2_with fail
   go_loopg [] (ts.length - k1) (fun gg wx=>∃ (k2:Nat) (q:List az) (vt:Value),gg=ts.length - k2/\Hid (Tx ts (.threads l q) k2 out)/\Hid (Env w gR gp cap ts g2 g3 l q vi vt k2 wx)/\Hid (q.length<=4))
   case atStart=>exact ⟨k1,[],.slice none 0 0,rfl,Sj,qF,Lib.hid (Nat.zero_le _)⟩
   case round =>
    clear qF Sj;obtain ⟨k1,q,vt,rfl,Bz,qF,AU⟩:=hrel;have HN:=Lib.hid (og.out k1 _ qF.out.rd);have HE:=Lj (ts:=ts) k1;generalize str (aj ts k1)=x at HN HE;by_cases hth:aj ts k1=eT
    ·rw [decide_eq_true hth] at HE
     have a0l:=Lib.hid hth;have NT:=Lib.hid (qF.out.rd.more (by rw [hth];decide));clear hth;go_wp2_with fail
     refine HN.out.mono ?_;rintro e w5 ⟨rfl,hb⟩;have D5:=Lib.hid (qF.out.below hb);have HT:=Lib.hid (HTK.out k1 _ D5.out.rd);clear hb HN;go_wp2_with fail
     refine HT.out.mono ?_;rintro e w6 ⟨rfl,hk,hr⟩;have hE6:=D5.out.keepR hk (hr NT.out);have HZ:=Lib.hid (Sits.new w6 99 ay);have hkk:=bK (w6.alloc (.cells ay 99)) w6.heap.size (pc (tk ts k1));have hs:Sits ((w6.alloc (.cells ay 99)).setRow w6.heap.size (pc (tk ts k1))) w6.heap.size 99 (pc (tk ts k1)):=setRow_heap _ _ _ _ _ _ HZ.out;have hlow:Below w6.heap.size w6 ((w6.alloc (.cells ay 99)).setRow w6.heap.size (pc (tk ts k1))):=behind ((Below.refl _ _).alloc (Nat.le_refl _) _) hkk (by simp) (fun x e=>by rw [e];exact Nat.le_refl _);have UI:=hE6.below hlow;clear hk hr hkk hlow hE6 HT D5;go_upto_region 6 with (refine wpList_store_row rfl 99 _ _ rfl w6.heap.size (pc (tk ts k1)) rfl rfl 99 ay HZ.out jq rfl (jr _) ?_)
     change Code.wp _ _ _ _ ((w6.alloc (.cells ay 99)).setRow w6.heap.size (pc (tk ts k1)));generalize (w6.alloc (.cells ay 99)).setRow w6.heap.size (pc (tk ts k1))=W7 at hs UI ⊢;generalize w6.heap.size=g4 at hs ⊢;clear HZ qF;have qF:=Lib.hid UI;obtain ⟨vs,hrow,_⟩:=UI.tm.row;obtain ⟨pt,ct,rfl⟩:=kC hrow;have c1:=UI.tm.box.c1;have l3:=UI.tm.box.lt;have n4:(q.length:Int)<=4:=by have:=AU.out;omega
     rcases iN Bz.out with ⟨_,h4,ho⟩ | ⟨_,h4,o1,hbx,ho⟩ | ⟨hne,_⟩
     ·have e4:((q.length:Int) == 4)=true:=by have:=AU.out;rw [show q.length=4 by omega];rfl
      have HO:=Lib.hid ho;obtain ⟨z0,z1,z2,z3,z4⟩:=ku hs;have lz:=hs.lt;have Xn:=Lib.hid (Yv.out k1);unfold pc at Xn;clear hs UI hrow h4 ho;go_wp2_with fail
      refine (Xn.out _).mono ?_;rintro e w8 ⟨rfl,hb⟩;have Ps:=Lib.hid (qF.out.tm.low.trans (aa.of_below hb));clear hb;go_wp2_with fail
      rw [HO.out];exact ⟨rfl,Ps.out,rfl⟩
     ·have e4:((q.length:Int) == 4)=false:=beq_eq_false_iff_ne.2 (by omega)
      have HO:=Lib.hid ho;have iW:=Lib.hid hbx;have HBC:=Lib.hid (fun W (hr:Rd W gR gp cap ts (k1+1))=>(Ip HP.out (k1+1) 1 o1 W (by omega) hbx hr:Calls _ _ #[_,.int .i64 (1:Int)] W _));have q4:q.length<=4:=AU.out;have HQ4:=Lib.hid h4;clear hs UI hrow h4 ho hbx;go_wp2_with fail
      clear c1 l3 e4 n4;generalize hvt:Value.slice pt q.length ct=vt at qF;clear hvt;obtain ⟨ZZ,hZ⟩:∃ Z:List PanicEntry->World->Prop,Z=(fun c W=>∃ j er,o1 = .bad j er/\c=GM (tk ts j) er/\aa (fun x=>x=gR) w W):=⟨_,rfl⟩
      have Xm:=Lib.hid hZ;refine ae.rf [26,27,28,29,30,31,32] (dw (α:=(az × Nat × Value)) (.pointer (some ⟨g3,1,none⟩)) vt (.pointer (some ⟨gR,0,none⟩)) 80 (fun a=>a.2.2) (fun a=>[a.2.2]) (Env w gR gp cap ts g2 g3 l q vi vt (k1+1)) (fun a W=>(o1 = .ok a.1 a.2.1/\aR (iK (w.heap.size+2) W vt g3) W a.1 a.2.2)/\Env w gR gp cap ts g2 g3 l q vi vt a.2.1 W) (fun a v W=>∃ Wb,((o1 = .ok a.1 a.2.1/\aR (iK (w.heap.size+2) Wb vt g3) Wb a.1 a.2.2)/\Env w gR gp cap ts g2 g3 l q vi vt a.2.1 Wb)/\∃ Ah:List Value,(Ah.length=q.length/\(∀ (i:Nat) (b:az) (u:Value),q[i]? = some b->Ah[i]? = some u->aR (iK (w.heap.size+2) Wb vt g3) Wb b u)/\Wb.ownsRow w.heap.size 80 1 vt q.length Ah)/\W.ownsRow w.heap.size 80 1 v (q.length+1) (Ah ++ [a.2.2])/\aa (fun x=>vt.ownBlock=some x) Wb W/\(∀ x,v.ownBlock=some x->vt.ownBlock=some x \/ Wb.heap.size<=x)/\∃ gg c,v = .slice (some ⟨gg,0,none⟩) (q.length+1) c)) ZZ dw.loc (by kernel_rfl) (by kernel_rfl) (by kernel_rfl) (by kernel_rfl) (by rfl) (fun xs=>dw.start (qF.out.below (Ag _)) xs) ?_ ?_ ?_
      ·clear hZ
       intro i o' hi ho d A W hI hd hk he;simp only [List.length_cons,List.length_nil,Nat.zero_add,Nat.reduceAdd] at hi
       refine .inl ⟨?_,?_⟩
       ·obtain rfl | rfl | rfl | rfl | rfl | rfl | rfl:i=0 \/ i=1 \/ i=2 \/ i=3 \/ i=4 \/ i=5 \/ i=6:=by omega
        all_goals (injection ho with ho;subst ho;kernel_rfl)
       have HI:=Lib.hid hI;obtain rfl | rfl | rfl | rfl | rfl | rfl | rfl:i=0 \/ i=1 \/ i=2 \/ i=3 \/ i=4 \/ i=5 \/ i=6:=by omega
       all_goals (injection ho with ho;subst ho)
       ·have t3:A.tmps[3]?.getD undef = .pointer (some ⟨g3,0,none⟩):=hk 3 (by rfl)
        refine jl (Y:=oZ (.pointer (some ⟨g3,1,none⟩)) W) (fun u W' h=>by obtain ⟨rfl,rfl⟩:=h;exact HI.out.SQ) ?_;clear hI he;go_simp
        exact ⟨rfl,rfl⟩
       ·have s0:A.tmps[26]?.getD undef = .pointer (some ⟨g3,1,none⟩):=hI.x0 (he 0 (by kernel_rfl))
        have cc:W.cell? ⟨g3,1,none⟩=some vt:=by
         rcases hI.ph with ⟨_,_,_,h⟩ | ⟨_,_,_,a,_,h⟩ | ⟨_,_,_,a,gn,_,_,h⟩ | ⟨_,_,_,h,_⟩
         ·exact h.tm.box.cell 1
         ·exact h.2.tm.box.cell 1
         ·exact h.2.tm.box.cell 1
         ·rw [hd] at h;cases h
        have HD:=Lib.hid hd;refine jl (Y:=oZ vt W) (fun u W' h=>by obtain ⟨rfl,rfl⟩:=h;exact HI.out.SS HD.out) ?_;clear hI he hd;go_simp
        exact ⟨rfl,rfl⟩
       ·have t0:A.tmps[0]?.getD undef = .pointer (some ⟨gR,0,none⟩):=hk 0 (by rfl)
        refine jl (Y:=oZ (.pointer (some ⟨gR,0,none⟩)) W) (fun u W' h=>by obtain ⟨rfl,rfl⟩:=h;exact HI.out.SV) ?_;clear hI he;go_simp
        exact ⟨rfl,rfl⟩
       ·have s2:A.tmps[28]?.getD undef = .pointer (some ⟨gR,0,none⟩):=hI.x2 (he 2 (by kernel_rfl))
        have SY:=Lib.hid (hI.before hd);have HD:=Lib.hid hd;obtain ⟨Y,hY⟩:∃ Y:Value->World->Prop,Y=Xl (α:=(az × Nat × Value)) (fun a=>a.2.2) (fun a W=>(o1 = .ok a.1 a.2.1/\aR (iK (w.heap.size+2) W vt g3) W a.1 a.2.2)/\Env w gR gp cap ts g2 g3 l q vi vt a.2.1 W):=⟨_,rfl⟩
        have HY:=Lib.hid hY;refine jl (Y:=Y) (fun u W' h=>by rw [HY.out] at h;obtain ⟨a,rfl,h⟩:=h;exact HI.out.called HD.out a h) ?_;clear hI he hd hY;go_simp
        refine (HBC.out W SY.out.rd).mono ?_;rintro e w5 ⟨hk5,Ga⟩;cases Ji:o1 with
        | ok b k2 =>
         rw [Ji] at Ga;have YU:=Lib.hid Ji;obtain ⟨⟨v,rfl,hv⟩,PH⟩:=Ga;exact .inl ⟨_,rfl,by rw [HY.out];exact ⟨(b,k2,v),rfl,⟨YU.out,SY.out.tm.made hv⟩,SY.out.keepR hk5 PH⟩⟩
        | bad j er =>
         rw [Ji] at Ga;exact .inr ⟨_,Ga,by rw [Xm.out];exact ⟨j,er,Ji,rfl,SY.out.tm.low.trans hk5⟩⟩
       ·have h3:=he 3 (by kernel_rfl)
        obtain ⟨a,s3,hp1⟩:=hI.has h3 hd;have s3:A.tmps[29]?.getD undef=(fun a=>a.2.2) a:=s3;have F8:=Lib.hid hp1;have HD:=Lib.hid (show d 3=true/\d 4=false from ⟨h3,hd⟩);refine jl (Y:=oZ (.slice (some ⟨W.heap.size,0,none⟩) 1 1) (W.alloc (.cells ((fun a=>[a.2.2]) a).toArray 80))) (fun u W' h=>by obtain ⟨rfl,rfl⟩:=h;exact HI.out.built HD.out.1 HD.out.2 a W.heap.size (Sits.new _ _ _) ⟨⟨F8.out.1.1,(F8.out.1.2.below ((Below.refl _ _).alloc (Nat.le_refl _) _)).wider (iV (by simp))⟩,F8.out.2.below ((Below.refl _ _).alloc (Nat.le_refl _) _)⟩) ?_;clear hI he hd h3 hp1;obtain ⟨p9,c9,e9,_⟩:=F8.out.1.2.len;have E9:=Lib.hid e9;rw [show (fun a:az × Nat × Value=>a.2.2) a=a.2.2 from rfl,e9] at s3;clear e9;go_simp
        exact ⟨rfl,by show W.alloc _=W.alloc (.cells #[a.2.2] _);rw [E9.out]⟩
       ·have h1:=he 1 (by kernel_rfl)
        have h4:=he 4 (by kernel_rfl);have s1:A.tmps[27]?.getD undef=vt:=hI.x1 h1;obtain ⟨h3,a,gn,s4,hsn,hp1⟩:=hI.lies h4 hd;have s4:A.tmps[30]?.getD undef = .slice (some ⟨gn,0,none⟩) 1 1:=s4;have Q9:=hp1.2.tm.low.size;obtain ⟨Ah,hown,hxx⟩:=(show ∃ Ah:List Value,W.ownsRow w.heap.size 80 1 vt q.length Ah/\(Ah.length=q.length/\(∀ (i:Nat) (b:az) (u:Value),q[i]? = some b->Ah[i]? = some u->aR (iK (w.heap.size+2) W vt g3) W b u)/\W.ownsRow w.heap.size 80 1 vt q.length Ah) from (let ⟨vs,a1,a2,a3⟩:=hp1.2.tm.row;⟨vs,a1,a2,a3,a1⟩))
        refine rT (.tmp 27) (.tmp 30) 24 rfl w.heap.size 80 i1 _ 1 24 Tryz.underlying24 hj0 hj1 hj2 hj3 rfl (by omega) vt _ Ah ((ae.aU A 27).trans s1) hown ⟨gn,0,none⟩ 1 1 ((fun a=>[a.2.2]) a) ((ae.aU A 30).trans s4) rfl (JK hsn) (fun u hu=>by obtain rfl:u=_:=(List.mem_singleton.1 hu);obtain ⟨_,_,e,_⟩:=hp1.1.2.len;rw [e];rfl)
         (by omega) (by unfold maxLen;omega) (by omega) Q9 W.heap.size rfl ?_
        intro gg cap' w1 hown1 hgrow hat hlt1
        exact HI.out.added h1 h3 h4 a _ ⟨W,hp1,Ah,hxx,hown1,Cb hgrow,fun x hx=>(by
         have:gg=x:=by simpa [Value.ownBlock] using hx
         subst this
         exact hat.imp id fun e=>by omega),gg,cap',rfl⟩
       ·have t3:A.tmps[3]?.getD undef = .pointer (some ⟨g3,0,none⟩):=hk 3 (by rfl)
        refine jl (Y:=oZ (.pointer (some ⟨g3,1,none⟩)) W) (fun u W' h=>by obtain ⟨rfl,rfl⟩:=h;exact HI.out.SX) ?_;clear hI he;go_simp
        exact ⟨rfl,rfl⟩
      ·intro c A W hdf hzz
       rw [Xm.out] at hzz;obtain ⟨j,er,h1,h2,h3⟩:=hzz;refine ⟨hdf,?_⟩;rcases HO.out with ⟨j2,er2,h4,rfl⟩ | ⟨b,k5,h4,_⟩
       ·rw [h1] at h4
        injection h4 with e1 e2;subst e1 e2 h2;exact ⟨h3,rfl⟩
       ·rw [h1] at h4;cases h4
      ·intro xs W hI
       obtain ⟨e6,a,Wb,⟨⟨ho1,hst⟩,Bb⟩,Ah,⟨hx1,hx2,hx3⟩,hown,hk,hat,gg,c,e5⟩:=hI.end';have hbx:Sits W g3 27 (dL vi vt false none):=Bb.tm.box.keep hk (aK hx3 Bb.tm.box (by decide));have c0:=hbx.c1;have f0:=hbx.free 1;have l0:=hbx.lt;rw [e5] at hown hat;have HNW:=Lib.hid (Bb.OB hst hk hx3 hx1 hx2 hown hat)
       have HTN:Hid (Tx ts (.threads l (q ++ [a.1])) a.2.1 out):=Lib.hid (by
        rcases HO.out with ⟨j2,er2,h4,rfl⟩ | ⟨b,k5,h4,h5⟩
        ·rw [ho1] at h4;cases h4
        ·rw [ho1] at h4
         injection h4 with e1 e2;subst e1 e2
         exact h5)
       have YD:=Lib.hid (show k1+1<a.2.1/\a.2.1<ts.length by
        have h1:=Ju HP.out iW.out NT.out trivial a.1 a.2.1 ho1;have h2:=h1.2.2;have h3:=h1.1
        omega)
       simp only [ae.gZ,e5,e6]
       clear hI hown hk hat e5 e6 hbx Bb ho1 hst hx1 hx2 hx3;go_wp2_with fail
       go_roundg (ts.length - a.2.1)
       case measure=>have:=YD.out;omega
       case rel=>exact ⟨a.2.1,q ++ [a.1],_,rfl,HTN,HNW,Lib.hid (by have:=HQ4.out;simp;omega)⟩
     ·exact absurd a0l.out hne
    ·rw [decide_eq_false hth] at HE
     have HO:=Lib.hid (((iN Bz.out).resolve_left (fun h=>hth h.1)).resolve_left (fun h=>hth h.1)).2;have HAF:=Lib.hid (Qy (ts:=ts) l q k1);clear hth;go_wp2_with fail
     refine HN.out.mono ?_;rintro e w5 ⟨rfl,hb⟩;have D5:=Lib.hid (qF.out.below hb);have HF:=Lib.hid (tO.out k1 _ D5.out.rd);clear hb HN qF;go_wp2_with fail
     refine HF.out.mono ?_;rintro e w6 ⟨hk,hq⟩;have UJ:=Lib.hid (D5.out.tm.keepR D5.out.rd hk);have H26:=Lib.hid (D5.out.res.keep hk (by have:=D5.out.e2;have:=Ar.out;omega));have BA:=Lib.hid (show gp≠g3/\gR<g3/\g2≠g3/\g2=w.heap.size by have:=HG2.out;have:=HG3.out;have:=Jf.out;have:=Ar.out;omega);clear hk;cases ho:jk ts k1 with
     | bad j er =>
      rw [ho] at hq;simp only at hq
      subst hq;have jY:Hid (out = .bad j er):=Lib.hid (by rw [HO.out,HAF.out,ho];rfl);clear ho;go_wp2_with fail
      rw [jY.out];exact ⟨rfl,UJ.out.low,rfl⟩
     | ok al k6 =>
     rw [ho] at hq;obtain ⟨hv,hr⟩:=hq;simp only [Sa] at hv
     subst hv;have HA6:=Lib.hid (show out=(bG ts true k6).bind fun a k'=>(ak ts [59] k').bind fun _ k'=>if au ts k' = 0 then .ok ⟨l,q,al,some a⟩ (k' + 1) else .bad k' 3 by rw [HO.out,HAF.out,ho];rfl);have hM7:=UJ.out.cell (i:=2) (u:=.bool al) (al':=al) rfl UJ.out.ask;have YE:=hr.dm BA.out.1 BA.out.2.1 2 (.bool al);have h27:=H26.out.far (p:=⟨g3,2,none⟩) BA.out.2.2.1 (.bool al);have c2:=UJ.out.box.c2;have f2:=UJ.out.box.free 2;have l2:=UJ.out.box.lt;clear ho hr;go_upto_region 10 with fail
     generalize w6.setCell ⟨g3,2,none⟩ (.bool al)=W7 at hM7 YE h27 ⊢;have HM7:=Lib.hid hM7;have TJ:=Lib.hid YE;have H27:=Lib.hid h27;have HX7:=Lib.hid (Js.out k6 _ YE);clear hM7 YE h27 c2 f2 l2 UJ H26;go_wp2_with fail
     refine HX7.out.mono ?_;rintro e w8 ⟨hk,hq⟩;have Vr:=Lib.hid (HM7.out.keepR TJ.out hk);have H28:=Lib.hid (H27.out.keep hk (by have:=HG2.out;have:=Ar.out;omega));clear hk;cases ho:bG ts true k6 with
     | bad j er =>
      rw [ho] at hq;simp only at hq
      subst hq;have jY:Hid (out = .bad j er):=Lib.hid (by rw [HA6.out,ho];rfl);clear ho;go_wp2_with fail
      rw [jY.out];exact ⟨rfl,Vr.out.low,rfl⟩
     | ok ask k8 =>
     rw [ho] at hq;obtain ⟨⟨pa,rfl,hv⟩,hr⟩:=hq;have HA8:=Lib.hid (show out=(ak ts [59] k8).bind fun _ k'=>if au ts k' = 0 then .ok ⟨l,q,al,some ask⟩ (k' + 1) else .bad k' 3 by rw [HA6.out,ho];rfl);have hM9:=Vr.out.cell (i:=3) (u:=.pointer pa) (Uy:=some ask) (pa':=pa) rfl hv;have YF:=hr.dm BA.out.1 BA.out.2.1 3 (.pointer pa);have h29:=H28.out.far (p:=⟨g3,3,none⟩) BA.out.2.2.1 (.pointer pa);have c3:=Vr.out.box.c3;have f3:=Vr.out.box.free 3;have l3:=Vr.out.box.lt;clear ho hr hv;go_upto_region 11 with fail
     generalize w8.setCell ⟨g3,3,none⟩ (.pointer pa)=W9 at hM9 YF h29 ⊢;have HM9:=Lib.hid hM9;have HR9:=Lib.hid YF;have H29:=Lib.hid h29;have HX9:=Lib.hid (wy.out k8 _ YF);clear hM9 YF h29 c3 f3 l3 Vr H28;go_wp2_with fail
     refine HX9.out.mono ?_;rintro e w10 ⟨hk,hq⟩;have Xo:=Lib.hid (HM9.out.keepR HR9.out hk);have a0m:=Lib.hid (H29.out.keep hk (by have:=HG2.out;have:=Ar.out;omega));clear hk;cases ho:ak ts [59] k8 with
     | bad j er =>
      rw [ho] at hq;simp only at hq
      subst hq;have jY:Hid (out = .bad j er):=Lib.hid (by rw [HA8.out,ho];rfl);clear ho;go_wp2_with fail
      rw [jY.out];exact ⟨rfl,Xo.out.low,rfl⟩
     | ok u k10 =>
     rw [ho] at hq;obtain ⟨hv,hr⟩:=hq;simp only [mH] at hv
     subst hv;have Xp:=Lib.hid (show out=if au ts k10=0 then .ok ⟨l,q,al,some ask⟩ (k10+1) else .bad k10 3 by rw [HA8.out,ho];rfl);have a0n:=Lib.hid hr;have a0o:=Lib.hid (KZ.out k10 _ hr);clear ho hr;go_wp2_with fail
     refine a0o.out.mono ?_;rintro e Vm ⟨hk,hq⟩;have Ll:=Lib.hid (Xo.out.keepR a0n.out hk);have UK:=Lib.hid (a0m.out.keep hk (by have:=HG2.out;have:=Ar.out;omega));clear hk;rcases hq with ⟨h0,rfl,_⟩ | ⟨h0,rfl⟩
     ·have jY:Hid (out = .ok ⟨l,q,al,some ask⟩ (k10+1)):=Lib.hid (by rw [Xp.out,if_pos h0])
      have hg2:=HG2.out;subst hg2;obtain ⟨pi,ci,rfl⟩:=kC Ll.out.init;obtain ⟨vs,hrow,_⟩:=Ll.out.row;obtain ⟨pt,ct,rfl⟩:=kC hrow;have hfin:=Ll.out.final UK.out rfl BA.out.2.2.1 (by have:=wh.out;omega) (by have:=AU.out;omega);obtain ⟨b0,b1,b2,b3⟩:=Ll.out.box.e4;have lb:=Ll.out.box.lt;unfold pc;clear h0 hrow;go_wp2_with (refine wpList_store_row rfl 27 _ _ rfl w.heap.size (dL (.slice pi l.length ci) (.slice pt q.length ct) al pa) rfl rfl 27 bV UK.out vP rfl (Oz _ _ _ _ _ _ _ _) ?_)
      have hz:Sits (Vm.setRow w.heap.size (dL (.slice pi l.length ci) (.slice pt q.length ct) al pa)) w.heap.size 27 (dL (.slice pi l.length ci) (.slice pt q.length ct) al pa):=setRow_heap _ _ _ _ _ _ UK.out;generalize Vm.setRow w.heap.size (dL (.slice pi l.length ci) (.slice pt q.length ct) al pa)=WE at hz hfin ⊢;obtain ⟨e0,e1,e2,e3⟩:=hz.e4;have Vp:=Lib.hid hfin;clear b0 b1 b2 b3 lb hfin hz;rw [jY.out];have hD:FT gR ts (.ok ⟨l,q,al,some ask⟩ (k10+1)) w (.returned (.agg (dL (.slice pi l.length ci) (.slice pt q.length ct) al pa))) WE:=⟨Vp.out.2,_,_,_,rfl,Vp.out.1⟩
      exact bodyPost_ret (v:=.agg (dL (.slice pi l.length ci) (.slice pt q.length ct) al pa)) (by simp [results,Tryz.results12,go_sem,e0,e1,e2,e3,dL,Act.put]) rfl hD
     ·have jY:Hid (out = .bad k10 3):=Lib.hid (by rw [Xp.out,if_neg h0])
      clear h0;go_wp2_with fail
      rw [jY.out];exact ⟨rfl,Ll.out.low,rfl⟩
end
end Go.Proofs.YtaanhmndeobgbaaGreatDoor.fT
