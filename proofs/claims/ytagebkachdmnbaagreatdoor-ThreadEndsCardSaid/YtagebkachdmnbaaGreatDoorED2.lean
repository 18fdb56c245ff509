/- Part 33 of the proof: what is used of the texts PrsV. -/
import Derived.Test.YtagebkachdmnbaaGreatDoorED1
import Derived.Test.YtagebkachdmnbaaGreatDoorEB1
import Derived.Defers
import Derived.Recover
import Derived.Laws.Pointers
section
namespace Go.Proofs.YtagebkachdmnbaaGreatDoor.Prs
open Go.RowKit Go.Proofs.YtagebkachdmnbaaGreatDoor.Mem Go.Proofs.YtagebkachdmnbaaGreatDoor.Expr Go.Proofs.YtagebkachdmnbaaGreatDoor.Prog
open Go.Proofs.YtagebkachdmnbaaGreatDoor.Lex (Tok isL isLD isD)
theorem yieldsZ_append {P:Program} {w:World} {o:Oper} {a:Act} {Y:Value->World->Prop} {Z:List PanicEntry->World->Prop} (s x:Operand) (t:TypeId)
    (ho:o.op = .call { callee:=.builtin .append,args:=#[s,x],argTypes:=#[t,t] })
    (base:Nat) (e:TypeId) (i:TypeInfo) (z:Value) (size bytes:Nat) (ht:P.underlying t=some (.slice e)) (hi:P.info? e=some i) (hz:i.zero=some z)
    (hsize:i.size=size) (hby:i.bytes=bytes) (hzs:z.cells.size=size) (hsz:0<size)
    (v:Value) (n:Nat) (xs:List Value) (hs:a.eval s=v) (hown:w.ownsRow base e size v n xs)
    (ad:Addr) (m c:Nat) (news:List Value) (hx:a.eval x = .slice (some ad) m c) (hl:news.length=m * size) (hnews:∀ j u,news[j]? = some u->w.cell? (ad.add j)=some u) (h1:∀ u ∈ news,u.oneCell' = true)
    (hm:0<m) (h63:n+m<=maxLen) (hbytes:(n+m) * bytes<=140737488355328) (hbase:base<=w.heap.size) (H:Nat) (hH:w.heap.size=H)
    (h:∀ g cap w',w'.ownsRow base e size (.slice (some ⟨g,0,none⟩) (n+m) cap) (n+m) (xs ++ news)->w.grownBy w' v.ownBlock->(v.ownBlock=some g \/ g=H)->g<w'.heap.size->Y (.slice (some ⟨g,0,none⟩) (n+m) cap) w') :
    Flow.YieldsZ P Y Z ((execOp a.eval o).run P w):=by
  obtain ⟨g,cap,w',hr,h2,h3,h4,h5⟩:=run_append_lies (P:=P) w t o.type base e i z size bytes ht hi hz hsize hby hzs hsz v n xs hown ad m c news hl hnews h1 hm h63 hbytes hbase H hH
  unfold execOp
  simp only [ho,resolve,invoke,builtin,Sem.run_bind,Sem.run_pure,Result.andThen_ok,List.map_toArray,List.map_cons,List.map_nil,hs,hx,hr]
  exact h g cap w' h2 h3 h4 h5
theorem sits_at {W:World} {g:Nat} {t:TypeId} {cs:List Value} (h:Sits W g t cs.toArray):∀ j u,cs[j]? = some u->W.cell? ((⟨g,0,none⟩:Addr).add j)=some u:=by
  intro j u hj
  have e:(⟨g,0,none⟩:Addr).add j=⟨g,j,none⟩:=by unfold Addr.add;by_cases h:j=0 <;> simp [h]
  rw [e,h.cell]
  simpa using hj
theorem iniInfo:(Tryz.prog.info? 126).map (fun i=>(i.zero,i.size,i.bytes))=some (some (.agg #[.int .u8 0,.int .u64 0]),2,16):=by kernel_rfl
theorem rowInfo:(Tryz.prog.info? 110).map (fun i=>(i.zero,i.size,i.bytes))=some (some (.slice none 0 0),1,24):=by kernel_rfl
theorem testSize:(Tryz.prog.info? 40).map (·.size)=some 4:=by kernel_rfl
theorem cell_one (x:Nat × Nat):∀ u ∈ initCell x,u.oneCell' = true:=by
  intro u hu
  simp only [initCell,List.mem_cons,List.not_mem_nil,or_false] at hu
  rcases hu with rfl | rfl <;> rfl
structure Grows {α:Type} (pb:Value) (v0 pr:Value) (te:TypeId) (val:α->Value) (cells:α->List Value) (P0:World->Prop) (P1:α->World->Prop) (P3:α->Value->World->Prop) (d:Nat->Bool) (xs:Nat->Value) (W:World):Prop where
  x0:d 0=true->xs 0=pb
  x1:d 1=true->xs 1=v0
  x2:d 2=true->xs 2=pr
  x6:d 6=true->xs 6=pb
  ph:(d 3=false/\d 4=false/\d 5=false/\P0 W) \/ (d 3=true/\d 4=false/\d 5=false/\∃ a,xs 3=val a/\P1 a W) \/
    (d 3=true/\d 4=true/\d 5=false/\∃ a gn,xs 4 = .slice (some ⟨gn,0,none⟩) 1 1/\Sits W gn te (cells a).toArray/\P1 a W) \/ (d 3=true/\d 4=true/\d 5=true/\d 1=true/\∃ a,P3 a (xs 5) W)
section
variable {α : Type} {pb v0 pr : Value} {te : TypeId} {val : α → Value} {cells : α → List Value} {P0 : World → Prop} {P1 : α → World → Prop} {P3 : α → Value → World → Prop} {d : Nat → Bool} {xs : Nat → Value} {W W' : World}
theorem Grows.loc:Flow.Local 7 (Grows pb v0 pr te val cells P0 P1 P3):=by
  intro d d' xs xs' w hd hx h
  have e:∀ i,i<7->d' i=d i:=fun i hi=>(hd i hi).symm
  have f:∀ i,i<7->xs' i=xs i:=fun i hi=>(hx i hi).symm
  obtain ⟨h0,h1,h2,h6,ph⟩:=h
  refine ⟨?_,?_,?_,?_,?_⟩
  · rw [e 0 (by decide),f 0 (by decide)];exact h0
  · rw [e 1 (by decide),f 1 (by decide)];exact h1
  · rw [e 2 (by decide),f 2 (by decide)];exact h2
  · rw [e 6 (by decide),f 6 (by decide)];exact h6
  · rw [e 1 (by decide),e 3 (by decide),e 4 (by decide),e 5 (by decide),f 3 (by decide),f 4 (by decide),f 5 (by decide)];exact ph
theorem Grows.start (h:P0 W) (xs:Nat->Value):Grows pb v0 pr te val cells P0 P1 P3 (fun _=>false) xs W :=
  ⟨fun h=>(by cases h),fun h=>(by cases h),fun h=>(by cases h),fun h=>(by cases h),.inl ⟨rfl,rfl,rfl,h⟩⟩
theorem Grows.read0 (h:Grows pb v0 pr te val cells P0 P1 P3 d xs W):Grows pb v0 pr te val cells P0 P1 P3 (Flow.setB d 0) (Flow.setX xs 0 pb) W:=by
  obtain ⟨h0,h1,h2,h6,ph⟩:=h
  exact ⟨fun _=>rfl,by simpa [Flow.setB,Flow.setX] using h1,by simpa [Flow.setB,Flow.setX] using h2,by simpa [Flow.setB,Flow.setX] using h6,by simpa [Flow.setB,Flow.setX] using ph⟩
theorem Grows.read1 (h:Grows pb v0 pr te val cells P0 P1 P3 d xs W) (hd:d 1=false):Grows pb v0 pr te val cells P0 P1 P3 (Flow.setB d 1) (Flow.setX xs 1 v0) W:=by
  obtain ⟨h0,h1,h2,h6,ph⟩:=h
  refine ⟨by simpa [Flow.setB,Flow.setX] using h0,fun _=>rfl,by simpa [Flow.setB,Flow.setX] using h2,by simpa [Flow.setB,Flow.setX] using h6,?_⟩
  rcases ph with ph | ph | ph | ⟨_,_,_,h,_⟩
  · exact .inl (by simpa [Flow.setB,Flow.setX] using ph)
  · exact .inr (.inl (by simpa [Flow.setB,Flow.setX] using ph))
  · exact .inr (.inr (.inl (by simpa [Flow.setB,Flow.setX] using ph)))
  · rw [hd] at h;cases h
theorem Grows.read2 (h:Grows pb v0 pr te val cells P0 P1 P3 d xs W):Grows pb v0 pr te val cells P0 P1 P3 (Flow.setB d 2) (Flow.setX xs 2 pr) W:=by
  obtain ⟨h0,h1,h2,h6,ph⟩:=h
  exact ⟨by simpa [Flow.setB,Flow.setX] using h0,by simpa [Flow.setB,Flow.setX] using h1,fun _=>rfl,by simpa [Flow.setB,Flow.setX] using h6,by simpa [Flow.setB,Flow.setX] using ph⟩
theorem Grows.read6 (h:Grows pb v0 pr te val cells P0 P1 P3 d xs W):Grows pb v0 pr te val cells P0 P1 P3 (Flow.setB d 6) (Flow.setX xs 6 pb) W:=by
  obtain ⟨h0,h1,h2,h6,ph⟩:=h
  exact ⟨by simpa [Flow.setB,Flow.setX] using h0,by simpa [Flow.setB,Flow.setX] using h1,by simpa [Flow.setB,Flow.setX] using h2,fun _=>rfl,by simpa [Flow.setB,Flow.setX] using ph⟩
theorem Grows.called (h:Grows pb v0 pr te val cells P0 P1 P3 d xs W) (hd:d 3=false) (a:α) (hp:P1 a W'):Grows pb v0 pr te val cells P0 P1 P3 (Flow.setB d 3) (Flow.setX xs 3 (val a)) W':=by
  obtain ⟨h0,h1,h2,h6,ph⟩:=h
  have ph:d 4=false/\d 5=false:=by
    rcases ph with ⟨_,a,b,_⟩ | ⟨h,_⟩ | ⟨h,_⟩ | ⟨h,_⟩
    · exact ⟨a,b⟩
    all_goals rw [hd] at h;cases h
  exact ⟨by simpa [Flow.setB,Flow.setX] using h0,by simpa [Flow.setB,Flow.setX] using h1,by simpa [Flow.setB,Flow.setX] using h2,by simpa [Flow.setB,Flow.setX] using h6,.inr (.inl ⟨by simp [Flow.setB],by simpa [Flow.setB] using ph.1,by simpa [Flow.setB] using ph.2,a,rfl,hp⟩)⟩
theorem Grows.before (h:Grows pb v0 pr te val cells P0 P1 P3 d xs W) (hd:d 3=false):P0 W:=by
  rcases h.ph with ⟨_,_,_,h⟩ | ⟨h,_⟩ | ⟨h,_⟩ | ⟨h,_⟩
  · exact h
  all_goals rw [hd] at h;cases h
theorem Grows.has (h:Grows pb v0 pr te val cells P0 P1 P3 d xs W) (h3:d 3=true) (h4:d 4=false):∃ a,xs 3=val a/\P1 a W:=by
  rcases h.ph with ⟨h,_⟩ | ⟨_,_,_,h⟩ | ⟨_,h,_⟩ | ⟨_,h,_⟩
  · rw [h3] at h;cases h
  · exact h
  all_goals rw [h4] at h;cases h
theorem Grows.built (h:Grows pb v0 pr te val cells P0 P1 P3 d xs W) (h3:d 3=true) (h4:d 4=false) (a:α) (gn:Nat) (hs:Sits W' gn te (cells a).toArray) (hp:P1 a W'):Grows pb v0 pr te val cells P0 P1 P3 (Flow.setB d 4) (Flow.setX xs 4 (.slice (some ⟨gn,0,none⟩) 1 1)) W':=by
  obtain ⟨h0,h1,h2,h6,ph⟩:=h
  have ph:d 5=false:=by
    rcases ph with ⟨_,_,b,_⟩ | ⟨_,_,h,_⟩ | ⟨_,h,_⟩ | ⟨_,h,_⟩
    · exact b
    · exact h
    all_goals rw [h4] at h;cases h
  exact ⟨by simpa [Flow.setB,Flow.setX] using h0,by simpa [Flow.setB,Flow.setX] using h1,by simpa [Flow.setB,Flow.setX] using h2,by simpa [Flow.setB,Flow.setX] using h6,.inr (.inr (.inl ⟨by simpa [Flow.setB] using h3,by simp [Flow.setB],by simpa [Flow.setB] using ph,a,gn,rfl,hs,hp⟩))⟩
theorem Grows.lies (h:Grows pb v0 pr te val cells P0 P1 P3 d xs W) (h4:d 4=true) (h5:d 5=false):d 3=true/\∃ a gn,xs 4 = .slice (some ⟨gn,0,none⟩) 1 1/\Sits W gn te (cells a).toArray/\P1 a W:=by
  rcases h.ph with ⟨_,h,_⟩ | ⟨_,h,_⟩ | ⟨h3,_,_,h⟩ | ⟨_,_,h,_⟩
  · rw [h4] at h;cases h
  · rw [h4] at h;cases h
  · exact ⟨h3,h⟩
  · rw [h5] at h;cases h
theorem Grows.added (h:Grows pb v0 pr te val cells P0 P1 P3 d xs W) (hd1:d 1=true) (h3:d 3=true) (h4:d 4=true) (a:α) (v:Value) (hp:P3 a v W'):Grows pb v0 pr te val cells P0 P1 P3 (Flow.setB d 5) (Flow.setX xs 5 v) W':=by
  obtain ⟨h0,h1,h2,h6,_⟩:=h
  exact ⟨by simpa [Flow.setB,Flow.setX] using h0,by simpa [Flow.setB,Flow.setX] using h1,by simpa [Flow.setB,Flow.setX] using h2,by simpa [Flow.setB,Flow.setX] using h6,.inr (.inr (.inr ⟨by simpa [Flow.setB] using h3,by simpa [Flow.setB] using h4,by simp [Flow.setB],by simpa [Flow.setB] using hd1,a,hp⟩))⟩
theorem Grows.end' (h:Grows pb v0 pr te val cells P0 P1 P3 (fun _=>true) xs W):xs 6=pb/\∃ a,P3 a (xs 5) W:=by
  refine ⟨h.x6 rfl,?_⟩
  rcases h.ph with ⟨h,_⟩ | ⟨_,h,_⟩ | ⟨_,_,h,_⟩ | ⟨_,_,_,_,h⟩
  · cases h
  · cases h
  · cases h
  · exact h
end
section
variable {gR gp cap : Nat} {ts : List Lex.Tok}
theorem tx_inits_inv {k:Nat} {l:List (Nat × Nat)} {out:Out Ts} (h:Tx ts (.inits l) k out):(ltrs ts k=wInit/\∃ x k1,initF ts (k+1) = .ok x k1/\Tx ts (.inits (l ++ [x])) k1 out) \/ (ltrs ts k=wInit/\∃ j er,initF ts (k+1) = .bad j er/\out = .bad j er) \/ (ltrs ts k≠wInit/\Tx ts (.threads l []) k out):=by
  cases h with
  | init h1 h2 h3=>exact .inl ⟨h1,_,_,h2,h3⟩
  | initBad h1 h2=>exact .inr (.inl ⟨h1,_,_,h2,rfl⟩)
  | inited h1 h2=>exact .inr (.inr ⟨h1,h2⟩)
theorem tx_threads_inv {k:Nat} {l:List (Nat × Nat)} {q:List Blk} {out:Out Ts} (h:Tx ts (.threads l q) k out):(ltrs ts k=wThread/\4<=q.length/\out = .bad k 4) \/
    (ltrs ts k=wThread/\q.length<4/\∃ o1,Bx ts (.block 1) (k+1) o1/\((∃ j er,o1 = .bad j er/\out = .bad j er) \/ ∃ b k1,o1 = .ok b k1/\Tx ts (.threads l (q ++ [b])) k1 out)) \/ (ltrs ts k≠wThread/\out=askF ts l q k):=by
  cases h with
  | many h1 h2=>exact .inl ⟨h1,h2,rfl⟩
  | thread h1 h2 h3 h4=>exact .inr (.inl ⟨h1,h2,_,h3,.inr ⟨_,_,rfl,h4⟩⟩)
  | threadBad h1 h2 h3=>exact .inr (.inl ⟨h1,h2,_,h3,.inl ⟨_,_,rfl,rfl⟩⟩)
  | ask h1=>exact .inr (.inr ⟨h1,rfl⟩)
def TestDone (gR:Nat) (ts:List Lex.Tok) (o:Out Ts) (w:World) (e:Ending) (w':World):Prop :=
  Keeps (fun x=>x=gR) w w' /\ match o with
    | .ok t _=>∃ vi vt pa,e = .returned (testAgg vi vt t.all (.pointer pa))/\TestIn (fun g=>w.heap.size<=g) w' t vi vt (.pointer pa)
    | .bad j er=>e = .panicked (flt (tk ts j) er)
theorem block_all (hp:Pcs ts):∀ (n k:Nat),ts.length - k<=n->StmtC gR gp cap ts k/\BlockC gR gp cap ts k:=by
  intro n
  induction n with
  | zero=>exact fun k hk=>⟨fun _ _ _ _ _ h=>absurd h.lt (by omega),fun _ _ _ _ _ h=>absurd h.lt (by omega)⟩
  | succ n ih =>
    intro k hk
    by_cases hlt:k<ts.length
    · have hb:=block_rd (gR:=gR) (gp:=gp) (cap:=cap) hp k fun k' hk'=>(ih k' (by omega)).1
      exact ⟨stmt_any hp k fun k' hk'=>(ih k' (by omega)).2,hb⟩
    · exact ⟨fun _ _ _ _ _ h=>absurd h.lt hlt,fun _ _ _ _ _ h=>absurd h.lt hlt⟩
theorem block_any5 (hp:Pcs ts) (k:Nat):BlockC gR gp cap ts k:=(block_all hp _ k (Nat.le_refl _)).2
structure Env (w:World) (gR gp cap:Nat) (ts:List Lex.Tok) (g2 g3:Nat) (l:List (Nat × Nat)) (q:List Blk) (vi vt:Value) (k:Nat) (W:World):Prop where
  tm:Mkr w gR g3 l q false none vi vt none W
  rd:Rd W gR gp cap ts k
  res:Sits W g2 40 zeroT
  rd0:∃ k0,Rd w gR gp cap ts k0
  e2:g2=w.heap.size
  e3:g2<g3
section
variable {w W W' : World} {g2 g3 k k' : Nat} {l : List (Nat × Nat)} {q : List Blk} {vi vt : Value}
theorem Env.below (h:Env w gR gp cap ts g2 g3 l q vi vt k W) (hb:Below W.heap.size W W'):Env w gR gp cap ts g2 g3 l q vi vt k W':=⟨h.tm.below hb,h.rd.below hb,h.res.below hb h.res.lt,h.rd0,h.e2,h.e3⟩
theorem Env.keepR (h:Env w gR gp cap ts g2 g3 l q vi vt k W) (hk:Keeps (fun x=>x=gR) W W') (hr:Rd W' gR gp cap ts k'):Env w gR gp cap ts g2 g3 l q vi vt k' W' :=
  ⟨h.tm.keepR h.rd hk,hr,h.res.keep hk (by have:=h.e2;have:=h.tm.lt;omega),h.rd0,h.e2,h.e3⟩
theorem Env.keepX {X:Nat->Prop} (h:Env w gR gp cap ts g2 g3 l q vi vt k W) (hk:Keeps X W W') (hX:∀ x,X x->w.heap.size<=x):Rd W' gR gp cap ts k:=by
  obtain ⟨k0,h0⟩:=h.rd0
  have hgp:gp<w.heap.size:=World.block_lt_of_cell? _ _ (h0.at h0.lt).1
  have hgpW:gp<W.heap.size:=World.block_lt_of_cell? _ _ (h.rd.at h.rd.lt).1
  refine ⟨h.rd.box.keep hk (fun e=>by have:=hX gR e;have:=h.tm.lt;omega),fun j i u hj hu=>?_,h.rd.lt,h.rd.cap,h.rd.few,h.rd.far,h.rd.good,h0.baseK (low2 h.tm.low hk fun x e => .inr (hX x e))⟩
  rw [World.cell?_of_block (hk.block gp hgpW (fun e=>by have:=hX gp e;omega))];exact h.rd.row j i u hj hu
theorem Env.put0 {vi':Value} {x:Nat × Nat} (h:Env w gR gp cap ts g2 g3 l [] vi vt k W) (hk:Keeps (fun x=>vi.ownBlock=some x) W W') (hown:W'.ownsRow w.heap.size 126 2 vi' (l.length+1) (l.flatMap initCell ++ initCell x)) :
    Env w gR gp cap ts g2 g3 (l ++ [x]) [] vi' vt k (W'.setCell ⟨g3,0,none⟩ vi'):=by
  have hbx:Sits W' g3 40 (tCells vi vt false none):=h.tm.box.keep hk (own_far h.tm.init h.tm.box (by decide))
  have hk2:Keeps (fun x=>vi.ownBlock=some x \/ x=g3) W (W'.setCell ⟨g3,0,none⟩ vi'):=((hk.wider (Y:=fun x=>vi.ownBlock=some x \/ x=g3) fun x _ e => .inl e).put (p:=⟨g3,0,none⟩) (.inl (.inr rfl)) vi')
  have hX:∀ x,(vi.ownBlock=some x \/ x=g3)->w.heap.size<=x:=fun x e=>e.elim (fun e=>(h.tm.init.lt x e).1) (fun e=>by rw [e];exact h.tm.gB)
  refine ⟨h.tm.put0 hk2 (own_keeps hown ((Keeps.refl (fun x=>x=g3) W').put (p:=⟨g3,0,none⟩) (.inl rfl) vi') fun y hy e=>by subst e;exact own_far hown hbx (by decide) hy) (hbx.put 0 vi'),h.keepX hk2 hX,h.res.keep hk2 (fun e=>e.elim (own_far h.tm.init h.res (by decide)) (fun e=>by have:=h.e3;omega)),h.rd0,h.e2,h.e3⟩
theorem Env.put1 {vt' u:Value} {b:Blk} (h:Env w gR gp cap ts g2 g3 l q vi vt k W) (hu:Stand (zone (w.heap.size+2) W vt g3) W b u) (hk:Keeps (fun x=>vt.ownBlock=some x) W W')
    {vs:List Value} (h1:W.ownsRow w.heap.size 110 1 vt q.length vs) (h2:vs.length=q.length) (h3:∀ (i:Nat) (b:Blk) (u:Value),q[i]? = some b->vs[i]? = some u->Stand (zone (w.heap.size+2) W vt g3) W b u)
    (hown:W'.ownsRow w.heap.size 110 1 vt' (q.length+1) (vs ++ [u])) (hat:∀ x,vt'.ownBlock=some x->vt.ownBlock=some x \/ W.heap.size<=x):Env w gR gp cap ts g2 g3 l (q ++ [b]) vi vt' k (W'.setCell ⟨g3,1,none⟩ vt'):=by
  have hbx:Sits W' g3 40 (tCells vi vt false none):=h.tm.box.keep hk (own_far h1 h.tm.box (by decide))
  have hk2:Keeps (fun x=>vt.ownBlock=some x \/ x=g3) W (W'.setCell ⟨g3,1,none⟩ vt'):=((hk.wider (Y:=fun x=>vt.ownBlock=some x \/ x=g3) fun x _ e => .inl e).put (p:=⟨g3,1,none⟩) (.inl (.inr rfl)) vt')
  have hX:∀ x,(vt.ownBlock=some x \/ x=g3)->w.heap.size<=x:=fun x e=>e.elim (fun e=>(h1.lt x e).1) (fun e=>by rw [e];exact h.tm.gB)
  refine ⟨h.tm.put1 hu hk2 h1 h2 h3 (own_keeps hown ((Keeps.refl (fun x=>x=g3) W').put (p:=⟨g3,1,none⟩) (.inl rfl) vt') fun y hy e=>by subst e;exact own_far hown hbx (by decide) hy) hat (hbx.put 1 vt'),h.keepX hk2 hX,h.res.keep hk2 (fun e=>e.elim (own_far h1 h.res (by decide)) (fun e=>by have:=h.e3;omega)),h.rd0,h.e2,h.e3⟩
theorem yz_mono {P:Program} {Y Y':Value->World->Prop} {Z:List PanicEntry->World->Prop} {r:Result Next} (h:∀ u W',Y u W' -> Y' u W') (hr:Flow.YieldsZ P Y Z r):Flow.YieldsZ P Y' Z r:=by
  cases r with
  | ok n w =>
    cases n with
    | value v=>exact h v w hr
    | enter f args=>exact Calls.mono hr fun e w' hp=>hp.imp (fun ⟨v,e1,h1⟩=>⟨v,e1,h v w' h1⟩) id
    | skip=>exact hr
    | _=>exact hr
  | halt x w=>exact hr
def EqVW (v:Value) (W:World) (u:Value) (W':World):Prop:=u=v/\W' = W
def Grew {α:Type} (val:α->Value) (P1:α->World->Prop) (v:Value) (W:World):Prop:=∃ a,v=val a/\P1 a W
theorem drew_low (W:World):Below W.heap.size W W.drew:=⟨rfl,rfl,rfl,Nat.le_refl _,fun _ _=>rfl⟩
theorem grown_own {v:Value} (hg:W.grownBy W' v.ownBlock):Keeps (fun x=>v.ownBlock=some x) W W':=⟨hg.os,hg.tape,hg.output,hg.size,fun b hb hn=>hg.block b hb (fun e=>hn e.symm)⟩
end
theorem thread_eq (k:Nat):((str (ltrs ts k)).toList == [116,104,114,101,97,100])=decide (ltrs ts k=wThread):=lit_eq k wThread
set_option maxRecDepth 100000 in
set_option maxHeartbeats 4000000 in
theorem test_rd (hp:Pcs ts) (k:Nat) (out:Out Ts) (w:World) (hx:Tx ts (.inits []) k out) (h:Rd w gR gp cap ts k):Calls Tryz.prog 111 #[.pointer (some ⟨gR,0,none⟩)] w (TestDone gR ts out w):=by
  have HP:=Lib.hid hp
  have HX:=Lib.hid hx
  have HR0:=Lib.hid h
  have HGP:=Lib.hid (show gp<w.heap.size from World.block_lt_of_cell? _ _ (h.at h.lt).1)
  have HGR:=Lib.hid (show gR<w.heap.size from h.box.lt)
  have HHI:=Lib.hid (fun k2 W (hr:Rd W gR gp cap ts k2)=>(has_any hr wInit (by decide):Calls _ _ #[_,.string (str [105,110,105,116])] W _))
  have HNX:=Lib.hid (fun k2 W (hr:Rd W gR gp cap ts k2)=>show Calls Tryz.prog 177 #[.pointer (some ⟨gR,0,none⟩)] W fun e w'=>Made (.returned (.agg #[.int .u8 (kindAt ts k2:Nat),.string (str (ltrs ts k2)),.int .u64 (numAt ts k2:Nat),.int .i64 (tk ts k2).line,.int .i64 (tk ts k2).col])) W e w' from next_any hr)
  have HTK:=Lib.hid (fun k2 W (hr:Rd W gR gp cap ts k2)=>take_any hr)
  have HTH:=Lib.hid (fun k2 W=>throw_any (tk ts k2) 4 W)
  have HSTA:=Lib.hid (fun k2 W (hr:Rd W gR gp cap ts k2)=>start_any hr)
  have HFA:=Lib.hid (fun k2 W (hr:Rd W gR gp cap ts k2)=>forAll_any hr)
  have HEX:=Lib.hid (fun k2 W (hr:Rd W gR gp cap ts k2)=>(expression_any asked_leaf hr:Calls _ _ #[_,.func (.func 183) #[.pointer (some ⟨gR,0,none⟩)] #[]] W _))
  have HSG:=Lib.hid (fun k2 W (hr:Rd W gR gp cap ts k2)=>(sign_any hr [59] (by simp):Calls _ _ #[_,.string (str [59])] W _))
  have HOF:=Lib.hid (fun k2 W (hr:Rd W gR gp cap ts k2)=>(of_any hr 0:Calls _ _ #[_,.int .u8 (0:Int)] W _))
  obtain ⟨i0,hi0,hz0,hz1,hz2⟩:=info_parts iniInfo
  obtain ⟨i1,hj0,hj1,hj2,hj3⟩:=info_parts rowInfo
  have hb:Below w.heap.size w ((w.alloc (.cells zeroT 40)).alloc (.cells zeroT 40)):=((Below.refl _ _).alloc (Nat.le_refl _) _).alloc (by simp) _
  have HEN:=Lib.hid (show Env w gR gp cap ts w.heap.size (w.heap.size+1) [] [] (.slice none 0 0) (.slice none 0 0) k ((w.alloc (.cells zeroT 40)).alloc (.cells zeroT 40)) from
    ⟨⟨Keeps.of_below hb,h.box.lt,Sits.made (by simp) _ _,by omega,World.ownsRow_nil _ _ _ _,⟨[],World.ownsRow_nil _ _ _ _,rfl,fun i b u hb=>by simp at hb⟩,rfl,by simp⟩,h.below hb,(Sits.new _ _ _).alloc _,⟨k,h⟩,rfl,by omega⟩)
  have hft:=field_text
  clear h hb hp hx
  go_enter Tryz.func111,Tryz.ntmps111
  go_wp2_with fail
  change Code.wp _ _ _ _ ((w.alloc (.cells zeroT 40)).alloc (.cells zeroT 40))
  generalize (w.alloc (.cells zeroT 40)).alloc (.cells zeroT 40)=W0 at HEN ⊢
  generalize hg3:w.heap.size+1=g3 at HEN ⊢
  have HG3:=Lib.hid hg3
  clear hg3
  obtain ⟨g2,hg2⟩:∃ g2,g2=w.heap.size:=⟨_,rfl⟩
  have HG2:=Lib.hid hg2
  rw [<- hg2] at HEN
  clear hg2
  go_loopg [] (ts.length - k) (fun gg wx=>∃ (k1:Nat) (l:List (Nat × Nat)) (vi:Value),gg=ts.length - k1/\Hid (Tx ts (.inits l) k1 out)/\Hid (Env w gR gp cap ts g2 g3 l [] vi (.slice none 0 0) k1 wx)/\Hid (l.length<=k1))
  case atStart=>exact ⟨k,[],.slice none 0 0,rfl,HX,HEN,Lib.hid (Nat.zero_le _)⟩
  case round =>
    obtain ⟨k1,l,vi,rfl,HTX,HEN,HLN⟩:=hrel
    have HH:=Lib.hid (HHI.out k1 _ HEN.out.rd)
    go_wp2_with fail
    refine HH.out.mono ?_
    intro e w5 hq
    rcases hq with ⟨hc,rfl,hk,hr⟩ | ⟨hc,rfl,hb⟩
    · have HEN:=Lib.hid (HEN.out.keepR hk hr)
      have HLT:=Lib.hid (show k1+1<ts.length from hr.lt)
      have HLL:=Lib.hid (show l.length<=5000 by have:=HLN.out;have:=HLT.out;have:=hr.few;omega)
      have HST:=Lib.hid (fun W (hr:Rd W gR gp cap ts (k1+1))=>HSTA.out (k1+1) W hr)
      have HTI:=Lib.hid ((tx_inits_inv HTX.out).imp id (fun h=>h.resolve_right fun h=>h.1 hc))
      clear hc hk hr HH
      go_wp2_with fail
      have l5:l.length<=5000:=HLL.out
      obtain ⟨ZZ,hZ⟩:∃ Z:List PanicEntry->World->Prop,Z=(fun c W=>∃ j er,initF ts (k1+1) = .bad j er/\c=flt (tk ts j) er/\Keeps (fun x=>x=gR) w W):=⟨_,rfl⟩
      have HZZ:=Lib.hid hZ
      refine Flow.wp_flowS [7,8,9,10,11,12,13] (Grows (α:=((Nat × Nat) × Nat)) (.pointer (some ⟨g3,0,none⟩)) vi (.pointer (some ⟨gR,0,none⟩)) 126 (fun a => .agg (iniCells a.1.1 a.1.2)) (fun a=>initCell a.1) (Env w gR gp cap ts g2 g3 l [] vi (.slice none 0 0) (k1+1)) (fun a W=>initF ts (k1+1) = .ok a.1 a.2/\Env w gR gp cap ts g2 g3 l [] vi (.slice none 0 0) a.2 W) (fun a v W=>∃ Wb,(initF ts (k1+1) = .ok a.1 a.2/\Env w gR gp cap ts g2 g3 l [] vi (.slice none 0 0) a.2 Wb)/\∃ xsr,xsr=l.flatMap initCell/\W.ownsRow w.heap.size 126 2 v (l.length+1) (xsr ++ initCell a.1)/\Keeps (fun x=>vi.ownBlock=some x) Wb W/\(∀ x,v.ownBlock=some x->vi.ownBlock=some x \/ Wb.heap.size<=x)/\∃ gg c,v = .slice (some ⟨gg,0,none⟩) (l.length+1) c)) ZZ Grows.loc (by kernel_rfl) (by kernel_rfl) (by kernel_rfl) (by kernel_rfl) (by rfl) (fun xs=>Grows.start (HEN.out.below (drew_low _)) xs) ?_ ?_ ?_
      · clear hZ
        intro i o' hi ho d A W hI hd hk he
        simp only [List.length_cons,List.length_nil,Nat.zero_add,Nat.reduceAdd] at hi
        refine .inl ⟨?_,?_⟩
        · obtain rfl | rfl | rfl | rfl | rfl | rfl | rfl:i=0 \/ i=1 \/ i=2 \/ i=3 \/ i=4 \/ i=5 \/ i=6:=by omega
          all_goals (injection ho with ho;subst ho;kernel_rfl)
        have HI:=Lib.hid hI
        obtain rfl | rfl | rfl | rfl | rfl | rfl | rfl:i=0 \/ i=1 \/ i=2 \/ i=3 \/ i=4 \/ i=5 \/ i=6:=by omega
        · injection ho with ho;subst ho
          have t3:A.tmps[3]?.getD undef = .pointer (some ⟨g3,0,none⟩):=hk 3 (by rfl)
          refine yz_mono (Y:=EqVW (.pointer (some ⟨g3,0,none⟩)) W) (fun u W' h=>by obtain ⟨rfl,rfl⟩:=h;exact HI.out.read0) ?_
          clear hI he
          go_simp
          exact ⟨rfl,rfl⟩
        · injection ho with ho;subst ho
          have s0:A.tmps[7]?.getD undef = .pointer (some ⟨g3,0,none⟩):=hI.x0 (he 0 (by kernel_rfl))
          have cc:W.cell? ⟨g3,0,none⟩=some vi:=by
            rcases hI.ph with ⟨_,_,_,h⟩ | ⟨_,_,_,a,_,h⟩ | ⟨_,_,_,a,gn,_,_,h⟩ | ⟨_,_,_,h,_⟩
            · exact h.tm.box.cell 0
            · exact h.2.tm.box.cell 0
            · exact h.2.tm.box.cell 0
            · rw [hd] at h;cases h
          have HD:=Lib.hid hd
          refine yz_mono (Y:=EqVW vi W) (fun u W' h=>by obtain ⟨rfl,rfl⟩:=h;exact HI.out.read1 HD.out) ?_
          clear hI he hd
          go_simp
          exact ⟨rfl,rfl⟩
        · injection ho with ho;subst ho
          have t0:A.tmps[0]?.getD undef = .pointer (some ⟨gR,0,none⟩):=hk 0 (by rfl)
          refine yz_mono (Y:=EqVW (.pointer (some ⟨gR,0,none⟩)) W) (fun u W' h=>by obtain ⟨rfl,rfl⟩:=h;exact HI.out.read2) ?_
          clear hI he
          go_simp
          exact ⟨rfl,rfl⟩
        · injection ho with ho;subst ho
          have s2:A.tmps[9]?.getD undef = .pointer (some ⟨gR,0,none⟩):=hI.x2 (he 2 (by kernel_rfl))
          have HP0:=Lib.hid (hI.before hd)
          have HD:=Lib.hid hd
          obtain ⟨Y,hY⟩:∃ Y:Value->World->Prop,Y=Grew (α:=((Nat × Nat) × Nat)) (fun a => .agg (iniCells a.1.1 a.1.2)) (fun a W=>initF ts (k1+1) = .ok a.1 a.2/\Env w gR gp cap ts g2 g3 l [] vi (.slice none 0 0) a.2 W):=⟨_,rfl⟩
          have HY:=Lib.hid hY
          refine yz_mono (Y:=Y) (fun u W' h=>by rw [HY.out] at h;obtain ⟨a,rfl,h⟩:=h;exact HI.out.called HD.out a h) ?_
          clear hI he hd hY
          go_simp
          refine (HST.out W HP0.out.rd).mono ?_
          rintro e w5 ⟨hk5,hp5⟩
          cases ho5:initF ts (k1+1) with
          | ok x k2 =>
            rw [ho5] at hp5
            exact .inl ⟨_,hp5.1,by rw [HY.out];exact ⟨(x,k2),rfl,ho5,HP0.out.keepR hk5 hp5.2⟩⟩
          | bad j er =>
            rw [ho5] at hp5
            exact .inr ⟨_,hp5,by rw [HZZ.out];exact ⟨j,er,ho5,rfl,HP0.out.tm.low.trans hk5⟩⟩
        · injection ho with ho;subst ho
          have h3:=he 3 (by kernel_rfl)
          obtain ⟨a,s3,hp1⟩:=hI.has h3 hd
          have s3:A.tmps[10]?.getD undef=(fun a => .agg (iniCells a.1.1 a.1.2)) a:=s3
          have HP1:=Lib.hid hp1
          have HD:=Lib.hid (show d 3=true/\d 4=false from ⟨h3,hd⟩)
          refine yz_mono (Y:=EqVW (.slice (some ⟨W.heap.size,0,none⟩) 1 1) (W.alloc (.cells ((fun a=>initCell a.1) a).toArray 126))) (fun u W' h=>by obtain ⟨rfl,rfl⟩:=h;exact HI.out.built HD.out.1 HD.out.2 a W.heap.size (Sits.new _ _ _) ⟨HP1.out.1,HP1.out.2.below ((Below.refl _ _).alloc (Nat.le_refl _) _)⟩) ?_
          clear hI he hd h3 hp1
          simp only [iniCells] at s3
          go_simp
          exact ⟨rfl,rfl⟩
        · injection ho with ho;subst ho
          have h1:=he 1 (by kernel_rfl)
          have h4:=he 4 (by kernel_rfl)
          have s1:A.tmps[8]?.getD undef=vi:=hI.x1 h1
          obtain ⟨h3,a,gn,s4,hsn,hp1⟩:=hI.lies h4 hd
          have s4:A.tmps[11]?.getD undef = .slice (some ⟨gn,0,none⟩) 1 1:=s4
          have lws:=hp1.2.tm.low.size
          obtain ⟨xsr,hown,hxx⟩:=(show ∃ xsr,W.ownsRow w.heap.size 126 2 vi l.length xsr/\xsr=l.flatMap initCell from ⟨_,hp1.2.tm.init,rfl⟩)
          refine yieldsZ_append (.tmp 8) (.tmp 11) 37 rfl w.heap.size 126 i0 _ 2 16 Tryz.underlying37 hi0 hz0 hz1 hz2 rfl (by omega) vi _ xsr ((Flow.eval_form A 8).trans s1) hown ⟨gn,0,none⟩ 1 1 ((fun a=>initCell a.1) a) ((Flow.eval_form A 11).trans s4) rfl (sits_at hsn) (cell_one _)
            (by omega) (by unfold maxLen;omega) (by omega) lws W.heap.size rfl ?_
          intro gg cap' w1 hown1 hgrow hat hlt1
          exact HI.out.added h1 h3 h4 a _ ⟨W,hp1,xsr,hxx,hown1,grown_own hgrow,fun x hx=>(by
            have:gg=x:=by simpa [Value.ownBlock] using hx
            subst this
            exact hat.imp id fun e=>by omega),gg,cap',rfl⟩
        · injection ho with ho;subst ho
          have t3:A.tmps[3]?.getD undef = .pointer (some ⟨g3,0,none⟩):=hk 3 (by rfl)
          refine yz_mono (Y:=EqVW (.pointer (some ⟨g3,0,none⟩)) W) (fun u W' h=>by obtain ⟨rfl,rfl⟩:=h;exact HI.out.read6) ?_
          clear hI he
          go_simp
          exact ⟨rfl,rfl⟩
      · intro c A W hdf hzz
        rw [HZZ.out] at hzz
        obtain ⟨j,er,h1,h2,h3⟩:=hzz
        refine ⟨hdf,?_⟩
        rcases HTI.out with ⟨_,x,k2,h4,_⟩ | ⟨_,j2,er2,h4,rfl⟩
        · rw [h1] at h4;cases h4
        · rw [h1] at h4
          injection h4 with e1 e2
          subst e1 e2 h2
          exact ⟨h3,rfl⟩
      · intro xs W hI
        obtain ⟨e6,a,Wb,⟨hin,henv⟩,xsr,rfl,hown,hk,hat,gg,c,e5⟩:=hI.end'
        have hbx:Sits W g3 40 (tCells vi (.slice none 0 0) false none):=henv.tm.box.keep hk (own_far henv.tm.init henv.tm.box (by decide))
        have c0:W.cell? ⟨g3,0,none⟩=some vi:=hbx.cell 0
        have f0:=hbx.free 0
        have l0:=hbx.lt
        rw [e5] at hown
        have HNW:=Lib.hid (henv.put0 hk hown)
        have HTN:Hid (Tx ts (.inits (l ++ [a.1])) a.2 out):=Lib.hid (by
          rcases HTI.out with ⟨_,x,k2,h4,h5⟩ | ⟨_,j2,er2,h4,_⟩
          · rw [hin] at h4
            injection h4 with e1 e2
            subst e1 e2
            exact h5
          · rw [hin] at h4;cases h4)
        have HGO:=Lib.hid (show k1+1<a.2/\a.2<ts.length by have:=init_ok HP.out HLT.out hin;omega)
        simp only [Flow.putL,e5,e6]
        clear hI hown hk hat e5 e6 hbx henv hin
        go_wp2_with fail
        go_roundg (ts.length - a.2)
        case measure=>have:=HGO.out;omega
        case rel=>exact ⟨a.2,l ++ [a.1],_,rfl,HTN,HNW,Lib.hid (by have:=HGO.out;have:=HLN.out;simp;omega)⟩
    · have HEN:=Lib.hid (HEN.out.below hb)
      have HTT:=Lib.hid (((tx_inits_inv HTX.out).resolve_left (fun h=>hc h.1)).resolve_left (fun h=>hc h.1)).2
      have HLL:=Lib.hid (show l.length<=5000 by have:=HLN.out;have:=HEN.out.rd.lt;have:=HEN.out.rd.few;omega)
      clear hc hb HH HTX
      go_wp2_with fail
      go_loopg [] (ts.length - k1) (fun gg wx=>∃ (k2:Nat) (q:List Blk) (vt:Value),gg=ts.length - k2/\Hid (Tx ts (.threads l q) k2 out)/\Hid (Env w gR gp cap ts g2 g3 l q vi vt k2 wx)/\Hid (q.length<=4))
      case atStart=>exact ⟨k1,[],.slice none 0 0,rfl,HTT,HEN,Lib.hid (Nat.zero_le _)⟩
      case round =>
        clear HEN HTT
        obtain ⟨k1,q,vt,rfl,HTX,HEN,HQL⟩:=hrel
        have HN:=Lib.hid (HNX.out k1 _ HEN.out.rd)
        have HE:=thread_eq (ts:=ts) k1
        generalize str (ltrs ts k1)=x at HN HE
        by_cases hth:ltrs ts k1=wThread
        · rw [decide_eq_true hth] at HE
          have HTH1:=Lib.hid hth
          have HKN:=Lib.hid (HEN.out.rd.more (by rw [hth];decide))
          clear hth
          go_wp2_with fail
          refine HN.out.mono ?_
          rintro e w5 ⟨rfl,hb⟩
          have HEN5:=Lib.hid (HEN.out.below hb)
          have HT:=Lib.hid (HTK.out k1 _ HEN5.out.rd)
          clear hb HN
          go_wp2_with fail
          refine HT.out.mono ?_
          rintro e w6 ⟨rfl,hk,hr⟩
          have hE6:=HEN5.out.keepR hk (hr HKN.out)
          have HZ:=Lib.hid (Sits.new w6 278 zeroPc)
          have hkk:=row_keeps (w6.alloc (.cells zeroPc 278)) w6.heap.size (pc (tk ts k1))
          have hs:Sits ((w6.alloc (.cells zeroPc 278)).setRow w6.heap.size (pc (tk ts k1))) w6.heap.size 278 (pc (tk ts k1)):=setRow_heap _ _ _ _ _ _ HZ.out
          have hlow:Below w6.heap.size w6 ((w6.alloc (.cells zeroPc 278)).setRow w6.heap.size (pc (tk ts k1))):=behind ((Below.refl _ _).alloc (Nat.le_refl _) _) hkk (by simp) (fun x e=>by rw [e];exact Nat.le_refl _)
          have hE7:=hE6.below hlow
          clear hk hr hkk hlow hE6 HT HEN5
          go_upto_region 6 with (refine wpList_store_row rfl 278 _ _ rfl w6.heap.size (pc (tk ts k1)) rfl rfl 278 zeroPc HZ.out pcSize rfl (pc_one _) ?_)
          change Code.wp _ _ _ _ ((w6.alloc (.cells zeroPc 278)).setRow w6.heap.size (pc (tk ts k1)))
          generalize (w6.alloc (.cells zeroPc 278)).setRow w6.heap.size (pc (tk ts k1))=W7 at hs hE7 ⊢
          generalize w6.heap.size=g4 at hs ⊢
          clear HZ HEN
          have HEN:=Lib.hid hE7
          obtain ⟨vs,hrow,_⟩:=hE7.tm.row
          obtain ⟨pt,ct,rfl⟩:=own_slice hrow
          have c1:W7.cell? ⟨g3,1,none⟩=some (.slice pt q.length ct):=hE7.tm.box.cell 1
          have l3:=hE7.tm.box.lt
          have n4:(q.length:Int)<=4:=by have:=HQL.out;omega
          rcases tx_threads_inv HTX.out with ⟨_,h4,ho⟩ | ⟨_,h4,o1,hbx,ho⟩ | ⟨hne,_⟩
          · have e4:((q.length:Int) == 4)=true:=by have:=HQL.out;rw [show q.length=4 by omega];rfl
            have HO:=Lib.hid ho
            obtain ⟨z0,z1,z2,z3,z4⟩:=pc_at hs
            have lz:=hs.lt
            have HTHk:=Lib.hid (HTH.out k1)
            unfold pc at HTHk
            clear hs hE7 hrow h4 ho
            go_wp2_with fail
            refine (HTHk.out _).mono ?_
            rintro e w8 ⟨rfl,hb⟩
            have HK8:=Lib.hid (HEN.out.tm.low.trans (Keeps.of_below hb))
            clear hb
            go_wp2_with fail
            rw [HO.out]
            exact ⟨rfl,HK8.out,rfl⟩
          · have e4:((q.length:Int) == 4)=false:=beq_eq_false_iff_ne.2 (by omega)
            have HO:=Lib.hid ho
            have HBX:=Lib.hid hbx
            have HBC:=Lib.hid (fun W (hr:Rd W gR gp cap ts (k1+1))=>(block_any5 HP.out (k1+1) 1 o1 W (by omega) hbx hr:Calls _ _ #[_,.int .i64 (1:Int)] W _))
            have q4:q.length<=4:=HQL.out
            have HQ4:=Lib.hid h4
            clear hs hE7 hrow h4 ho hbx
            go_wp2_with fail
            clear c1 l3 e4 n4
            generalize hvt:Value.slice pt q.length ct=vt at HEN
            clear hvt
            obtain ⟨ZZ,hZ⟩:∃ Z:List PanicEntry->World->Prop,Z=(fun c W=>∃ j er,o1 = .bad j er/\c=flt (tk ts j) er/\Keeps (fun x=>x=gR) w W):=⟨_,rfl⟩
            have HZZ:=Lib.hid hZ
            refine Flow.wp_flowS [26,27,28,29,30,31,32] (Grows (α:=(Blk × Nat × Value)) (.pointer (some ⟨g3,1,none⟩)) vt (.pointer (some ⟨gR,0,none⟩)) 110 (fun a=>a.2.2) (fun a=>[a.2.2]) (Env w gR gp cap ts g2 g3 l q vi vt (k1+1)) (fun a W=>(o1 = .ok a.1 a.2.1/\Stand (zone (w.heap.size+2) W vt g3) W a.1 a.2.2)/\Env w gR gp cap ts g2 g3 l q vi vt a.2.1 W) (fun a v W=>∃ Wb,((o1 = .ok a.1 a.2.1/\Stand (zone (w.heap.size+2) Wb vt g3) Wb a.1 a.2.2)/\Env w gR gp cap ts g2 g3 l q vi vt a.2.1 Wb)/\∃ xsr:List Value,(xsr.length=q.length/\(∀ (i:Nat) (b:Blk) (u:Value),q[i]? = some b->xsr[i]? = some u->Stand (zone (w.heap.size+2) Wb vt g3) Wb b u)/\Wb.ownsRow w.heap.size 110 1 vt q.length xsr)/\W.ownsRow w.heap.size 110 1 v (q.length+1) (xsr ++ [a.2.2])/\Keeps (fun x=>vt.ownBlock=some x) Wb W/\(∀ x,v.ownBlock=some x->vt.ownBlock=some x \/ Wb.heap.size<=x)/\∃ gg c,v = .slice (some ⟨gg,0,none⟩) (q.length+1) c)) ZZ Grows.loc (by kernel_rfl) (by kernel_rfl) (by kernel_rfl) (by kernel_rfl) (by rfl) (fun xs=>Grows.start (HEN.out.below (drew_low _)) xs) ?_ ?_ ?_
            · clear hZ
              intro i o' hi ho d A W hI hd hk he
              simp only [List.length_cons,List.length_nil,Nat.zero_add,Nat.reduceAdd] at hi
              refine .inl ⟨?_,?_⟩
              · obtain rfl | rfl | rfl | rfl | rfl | rfl | rfl:i=0 \/ i=1 \/ i=2 \/ i=3 \/ i=4 \/ i=5 \/ i=6:=by omega
                all_goals (injection ho with ho;subst ho;kernel_rfl)
              have HI:=Lib.hid hI
              obtain rfl | rfl | rfl | rfl | rfl | rfl | rfl:i=0 \/ i=1 \/ i=2 \/ i=3 \/ i=4 \/ i=5 \/ i=6:=by omega
              · injection ho with ho;subst ho
                have t3:A.tmps[3]?.getD undef = .pointer (some ⟨g3,0,none⟩):=hk 3 (by rfl)
                refine yz_mono (Y:=EqVW (.pointer (some ⟨g3,1,none⟩)) W) (fun u W' h=>by obtain ⟨rfl,rfl⟩:=h;exact HI.out.read0) ?_
                clear hI he
                go_simp
                exact ⟨rfl,rfl⟩
              · injection ho with ho;subst ho
                have s0:A.tmps[26]?.getD undef = .pointer (some ⟨g3,1,none⟩):=hI.x0 (he 0 (by kernel_rfl))
                have cc:W.cell? ⟨g3,1,none⟩=some vt:=by
                  rcases hI.ph with ⟨_,_,_,h⟩ | ⟨_,_,_,a,_,h⟩ | ⟨_,_,_,a,gn,_,_,h⟩ | ⟨_,_,_,h,_⟩
                  · exact h.tm.box.cell 1
                  · exact h.2.tm.box.cell 1
                  · exact h.2.tm.box.cell 1
                  · rw [hd] at h;cases h
                have HD:=Lib.hid hd
                refine yz_mono (Y:=EqVW vt W) (fun u W' h=>by obtain ⟨rfl,rfl⟩:=h;exact HI.out.read1 HD.out) ?_
                clear hI he hd
                go_simp
                exact ⟨rfl,rfl⟩
              · injection ho with ho;subst ho
                have t0:A.tmps[0]?.getD undef = .pointer (some ⟨gR,0,none⟩):=hk 0 (by rfl)
                refine yz_mono (Y:=EqVW (.pointer (some ⟨gR,0,none⟩)) W) (fun u W' h=>by obtain ⟨rfl,rfl⟩:=h;exact HI.out.read2) ?_
                clear hI he
                go_simp
                exact ⟨rfl,rfl⟩
              · injection ho with ho;subst ho
                have s2:A.tmps[28]?.getD undef = .pointer (some ⟨gR,0,none⟩):=hI.x2 (he 2 (by kernel_rfl))
                have HP0:=Lib.hid (hI.before hd)
                have HD:=Lib.hid hd
                obtain ⟨Y,hY⟩:∃ Y:Value->World->Prop,Y=Grew (α:=(Blk × Nat × Value)) (fun a=>a.2.2) (fun a W=>(o1 = .ok a.1 a.2.1/\Stand (zone (w.heap.size+2) W vt g3) W a.1 a.2.2)/\Env w gR gp cap ts g2 g3 l q vi vt a.2.1 W):=⟨_,rfl⟩
                have HY:=Lib.hid hY
                refine yz_mono (Y:=Y) (fun u W' h=>by rw [HY.out] at h;obtain ⟨a,rfl,h⟩:=h;exact HI.out.called HD.out a h) ?_
                clear hI he hd hY
                go_simp
                refine (HBC.out W HP0.out.rd).mono ?_
                rintro e w5 ⟨hk5,hp5⟩
                cases ho5:o1 with
                | ok b k2 =>
                  rw [ho5] at hp5
                  have HO1:=Lib.hid ho5
                  obtain ⟨⟨v,rfl,hv⟩,hr5⟩:=hp5
                  exact .inl ⟨_,rfl,by rw [HY.out];exact ⟨(b,k2,v),rfl,⟨HO1.out,HP0.out.tm.made hv⟩,HP0.out.keepR hk5 hr5⟩⟩
                | bad j er =>
                  rw [ho5] at hp5
                  exact .inr ⟨_,hp5,by rw [HZZ.out];exact ⟨j,er,ho5,rfl,HP0.out.tm.low.trans hk5⟩⟩
              · injection ho with ho;subst ho
                have h3:=he 3 (by kernel_rfl)
                obtain ⟨a,s3,hp1⟩:=hI.has h3 hd
                have s3:A.tmps[29]?.getD undef=(fun a=>a.2.2) a:=s3
                have HP1:=Lib.hid hp1
                have HD:=Lib.hid (show d 3=true/\d 4=false from ⟨h3,hd⟩)
                refine yz_mono (Y:=EqVW (.slice (some ⟨W.heap.size,0,none⟩) 1 1) (W.alloc (.cells ((fun a=>[a.2.2]) a).toArray 110))) (fun u W' h=>by obtain ⟨rfl,rfl⟩:=h;exact HI.out.built HD.out.1 HD.out.2 a W.heap.size (Sits.new _ _ _) ⟨⟨HP1.out.1.1,(HP1.out.1.2.below ((Below.refl _ _).alloc (Nat.le_refl _) _)).wider (zone_mono (by simp))⟩,HP1.out.2.below ((Below.refl _ _).alloc (Nat.le_refl _) _)⟩) ?_
                clear hI he hd h3 hp1
                obtain ⟨p9,c9,e9,_⟩:=HP1.out.1.2.len
                have E9:=Lib.hid e9
                rw [show (fun a:Blk × Nat × Value=>a.2.2) a=a.2.2 from rfl,e9] at s3
                clear e9
                go_simp
                exact ⟨rfl,by show W.alloc _=W.alloc (.cells #[a.2.2] _);rw [E9.out]⟩
              · injection ho with ho;subst ho
                have h1:=he 1 (by kernel_rfl)
                have h4:=he 4 (by kernel_rfl)
                have s1:A.tmps[27]?.getD undef=vt:=hI.x1 h1
                obtain ⟨h3,a,gn,s4,hsn,hp1⟩:=hI.lies h4 hd
                have s4:A.tmps[30]?.getD undef = .slice (some ⟨gn,0,none⟩) 1 1:=s4
                have lws:=hp1.2.tm.low.size
                obtain ⟨xsr,hown,hxx⟩:=(show ∃ xsr:List Value,W.ownsRow w.heap.size 110 1 vt q.length xsr/\(xsr.length=q.length/\(∀ (i:Nat) (b:Blk) (u:Value),q[i]? = some b->xsr[i]? = some u->Stand (zone (w.heap.size+2) W vt g3) W b u)/\W.ownsRow w.heap.size 110 1 vt q.length xsr) from (let ⟨vs,a1,a2,a3⟩:=hp1.2.tm.row;⟨vs,a1,a2,a3,a1⟩))
                refine yieldsZ_append (.tmp 27) (.tmp 30) 38 rfl w.heap.size 110 i1 _ 1 24 Tryz.underlying38 hj0 hj1 hj2 hj3 rfl (by omega) vt _ xsr ((Flow.eval_form A 27).trans s1) hown ⟨gn,0,none⟩ 1 1 ((fun a=>[a.2.2]) a) ((Flow.eval_form A 30).trans s4) rfl (sits_at hsn) (fun u hu=>by obtain rfl:u=_:=(List.mem_singleton.1 hu);obtain ⟨_,_,e,_⟩:=hp1.1.2.len;rw [e];rfl)
                  (by omega) (by unfold maxLen;omega) (by omega) lws W.heap.size rfl ?_
                intro gg cap' w1 hown1 hgrow hat hlt1
                exact HI.out.added h1 h3 h4 a _ ⟨W,hp1,xsr,hxx,hown1,grown_own hgrow,fun x hx=>(by
                  have:gg=x:=by simpa [Value.ownBlock] using hx
                  subst this
                  exact hat.imp id fun e=>by omega),gg,cap',rfl⟩
              · injection ho with ho;subst ho
                have t3:A.tmps[3]?.getD undef = .pointer (some ⟨g3,0,none⟩):=hk 3 (by rfl)
                refine yz_mono (Y:=EqVW (.pointer (some ⟨g3,1,none⟩)) W) (fun u W' h=>by obtain ⟨rfl,rfl⟩:=h;exact HI.out.read6) ?_
                clear hI he
                go_simp
                exact ⟨rfl,rfl⟩
            · intro c A W hdf hzz
              rw [HZZ.out] at hzz
              obtain ⟨j,er,h1,h2,h3⟩:=hzz
              refine ⟨hdf,?_⟩
              rcases HO.out with ⟨j2,er2,h4,rfl⟩ | ⟨b,k5,h4,_⟩
              · rw [h1] at h4
                injection h4 with e1 e2
                subst e1 e2 h2
                exact ⟨h3,rfl⟩
              · rw [h1] at h4;cases h4
            · intro xs W hI
              obtain ⟨e6,a,Wb,⟨⟨ho1,hst⟩,henv⟩,xsr,⟨hx1,hx2,hx3⟩,hown,hk,hat,gg,c,e5⟩:=hI.end'
              have hbx:Sits W g3 40 (tCells vi vt false none):=henv.tm.box.keep hk (own_far hx3 henv.tm.box (by decide))
              have c0:W.cell? ⟨g3,1,none⟩=some vt:=hbx.cell 1
              have f0:=hbx.free 1
              have l0:=hbx.lt
              rw [e5] at hown hat
              have HNW:=Lib.hid (henv.put1 hst hk hx3 hx1 hx2 hown hat)
              have HTN:Hid (Tx ts (.threads l (q ++ [a.1])) a.2.1 out):=Lib.hid (by
                rcases HO.out with ⟨j2,er2,h4,rfl⟩ | ⟨b,k5,h4,h5⟩
                · rw [ho1] at h4;cases h4
                · rw [ho1] at h4
                  injection h4 with e1 e2
                  subst e1 e2
                  exact h5)
              have HGO:=Lib.hid (show k1+1<a.2.1/\a.2.1<ts.length by
                have h1:=bx_ok HP.out HBX.out HKN.out trivial a.1 a.2.1 ho1
                have h2:=h1.2.2
                have h3:=h1.1
                omega)
              simp only [Flow.putL,e5,e6]
              clear hI hown hk hat e5 e6 hbx henv ho1 hst hx1 hx2 hx3
              go_wp2_with fail
              go_roundg (ts.length - a.2.1)
              case measure=>have:=HGO.out;omega
              case rel=>exact ⟨a.2.1,q ++ [a.1],_,rfl,HTN,HNW,Lib.hid (by have:=HQ4.out;simp;omega)⟩
          · exact absurd HTH1.out hne
        · rw [decide_eq_false hth] at HE
          have HO:=Lib.hid (((tx_threads_inv HTX.out).resolve_left (fun h=>hth h.1)).resolve_left (fun h=>hth h.1)).2
          have HAF:=Lib.hid (askF_of (ts:=ts) l q k1)
          clear hth
          go_wp2_with fail
          refine HN.out.mono ?_
          rintro e w5 ⟨rfl,hb⟩
          have HEN5:=Lib.hid (HEN.out.below hb)
          have HF:=Lib.hid (HFA.out k1 _ HEN5.out.rd)
          clear hb HN HEN
          go_wp2_with fail
          refine HF.out.mono ?_
          rintro e w6 ⟨hk,hq⟩
          have HM6:=Lib.hid (HEN5.out.tm.keepR HEN5.out.rd hk)
          have H26:=Lib.hid (HEN5.out.res.keep hk (by have:=HEN5.out.e2;have:=HGR.out;omega))
          have HL3:=Lib.hid (show gp≠g3/\gR<g3/\g2≠g3/\g2=w.heap.size by have:=HG2.out;have:=HG3.out;have:=HGP.out;have:=HGR.out;omega)
          clear hk
          cases ho:forallF ts k1 with
          | bad j er =>
            rw [ho] at hq
            simp only at hq
            subst hq
            have HOB:Hid (out = .bad j er):=Lib.hid (by rw [HO.out,HAF.out,ho];rfl)
            clear ho
            go_wp2_with fail
            rw [HOB.out]
            exact ⟨rfl,HM6.out.low,rfl⟩
          | ok al k6 =>
          rw [ho] at hq
          obtain ⟨hv,hr⟩:=hq
          simp only [boolV] at hv
          subst hv
          have HA6:=Lib.hid (show out=(exprF ts true k6).bind fun a k'=>(signF ts [59] k').bind fun _ k'=>if kindAt ts k' = 0 then .ok ⟨l,q,al,some a⟩ (k' + 1) else .bad k' 3 by rw [HO.out,HAF.out,ho];rfl)
          have hM7:=HM6.out.cell (i:=2) (u:=.bool al) (al':=al) rfl HM6.out.ask
          have hR7:=hr.cell_put HL3.out.1 HL3.out.2.1 2 (.bool al)
          have h27:=H26.out.far (p:=⟨g3,2,none⟩) HL3.out.2.2.1 (.bool al)
          have c2:w6.cell? ⟨g3,2,none⟩=some (.bool false):=HM6.out.box.cell 2
          have f2:=HM6.out.box.free 2
          have l2:=HM6.out.box.lt
          clear ho hr
          go_upto_region 10 with fail
          generalize w6.setCell ⟨g3,2,none⟩ (.bool al)=W7 at hM7 hR7 h27 ⊢
          have HM7:=Lib.hid hM7
          have HR7:=Lib.hid hR7
          have H27:=Lib.hid h27
          have HX7:=Lib.hid (HEX.out k6 _ hR7)
          clear hM7 hR7 h27 c2 f2 l2 HM6 H26
          go_wp2_with fail
          refine HX7.out.mono ?_
          rintro e w8 ⟨hk,hq⟩
          have HM8:=Lib.hid (HM7.out.keepR HR7.out hk)
          have H28:=Lib.hid (H27.out.keep hk (by have:=HG2.out;have:=HGR.out;omega))
          clear hk
          cases ho:exprF ts true k6 with
          | bad j er =>
            rw [ho] at hq
            simp only at hq
            subst hq
            have HOB:Hid (out = .bad j er):=Lib.hid (by rw [HA6.out,ho];rfl)
            clear ho
            go_wp2_with fail
            rw [HOB.out]
            exact ⟨rfl,HM8.out.low,rfl⟩
          | ok ask k8 =>
          rw [ho] at hq
          obtain ⟨⟨pa,rfl,hv⟩,hr⟩:=hq
          have HA8:=Lib.hid (show out=(signF ts [59] k8).bind fun _ k'=>if kindAt ts k' = 0 then .ok ⟨l,q,al,some ask⟩ (k' + 1) else .bad k' 3 by rw [HA6.out,ho];rfl)
          have hM9:=HM8.out.cell (i:=3) (u:=.pointer pa) (ask':=some ask) (pa':=pa) rfl hv
          have hR9:=hr.cell_put HL3.out.1 HL3.out.2.1 3 (.pointer pa)
          have h29:=H28.out.far (p:=⟨g3,3,none⟩) HL3.out.2.2.1 (.pointer pa)
          have c3:w8.cell? ⟨g3,3,none⟩=some (.pointer none):=HM8.out.box.cell 3
          have f3:=HM8.out.box.free 3
          have l3:=HM8.out.box.lt
          clear ho hr hv
          go_upto_region 11 with fail
          generalize w8.setCell ⟨g3,3,none⟩ (.pointer pa)=W9 at hM9 hR9 h29 ⊢
          have HM9:=Lib.hid hM9
          have HR9:=Lib.hid hR9
          have H29:=Lib.hid h29
          have HX9:=Lib.hid (HSG.out k8 _ hR9)
          clear hM9 hR9 h29 c3 f3 l3 HM8 H28
          go_wp2_with fail
          refine HX9.out.mono ?_
          rintro e w10 ⟨hk,hq⟩
          have HM10:=Lib.hid (HM9.out.keepR HR9.out hk)
          have H210:=Lib.hid (H29.out.keep hk (by have:=HG2.out;have:=HGR.out;omega))
          clear hk
          cases ho:signF ts [59] k8 with
          | bad j er =>
            rw [ho] at hq
            simp only at hq
            subst hq
            have HOB:Hid (out = .bad j er):=Lib.hid (by rw [HA8.out,ho];rfl)
            clear ho
            go_wp2_with fail
            rw [HOB.out]
            exact ⟨rfl,HM10.out.low,rfl⟩
          | ok u k10 =>
          rw [ho] at hq
          obtain ⟨hv,hr⟩:=hq
          simp only [unitV] at hv
          subst hv
          have HA10:=Lib.hid (show out=if kindAt ts k10=0 then .ok ⟨l,q,al,some ask⟩ (k10+1) else .bad k10 3 by rw [HA8.out,ho];rfl)
          have HR10:=Lib.hid hr
          have HX10:=Lib.hid (HOF.out k10 _ hr)
          clear ho hr
          go_wp2_with fail
          refine HX10.out.mono ?_
          rintro e w11 ⟨hk,hq⟩
          have HM11:=Lib.hid (HM10.out.keepR HR10.out hk)
          have H211:=Lib.hid (H210.out.keep hk (by have:=HG2.out;have:=HGR.out;omega))
          clear hk
          rcases hq with ⟨h0,rfl,_⟩ | ⟨h0,rfl⟩
          · have HOB:Hid (out = .ok ⟨l,q,al,some ask⟩ (k10+1)):=Lib.hid (by rw [HA10.out,if_pos h0])
            have hg2:=HG2.out
            subst hg2
            obtain ⟨pi,ci,rfl⟩:=own_slice HM11.out.init
            obtain ⟨vs,hrow,_⟩:=HM11.out.row
            obtain ⟨pt,ct,rfl⟩:=own_slice hrow
            have hfin:=HM11.out.final H211.out rfl HL3.out.2.2.1 (by have:=HLL.out;omega) (by have:=HQL.out;omega)
            have b0:w11.cell? ⟨g3,0,none⟩=some (.slice pi l.length ci):=HM11.out.box.cell 0
            have b1:w11.cell? ⟨g3,1,none⟩=some (.slice pt q.length ct):=HM11.out.box.cell 1
            have b2:w11.cell? ⟨g3,2,none⟩=some (.bool al):=HM11.out.box.cell 2
            have b3:w11.cell? ⟨g3,3,none⟩=some (.pointer pa):=HM11.out.box.cell 3
            have lb:=HM11.out.box.lt
            unfold pc
            clear h0 hrow
            go_wp2_with (refine wpList_store_row rfl 40 _ _ rfl w.heap.size (tCells (.slice pi l.length ci) (.slice pt q.length ct) al pa) rfl rfl 40 zeroT H211.out testSize rfl (t_one _ _ _ _ _ _ _ _) ?_)
            have hz:Sits (w11.setRow w.heap.size (tCells (.slice pi l.length ci) (.slice pt q.length ct) al pa)) w.heap.size 40 (tCells (.slice pi l.length ci) (.slice pt q.length ct) al pa):=setRow_heap _ _ _ _ _ _ H211.out
            generalize w11.setRow w.heap.size (tCells (.slice pi l.length ci) (.slice pt q.length ct) al pa)=WE at hz hfin ⊢
            have e0:WE.cell? ⟨w.heap.size,0,none⟩=some (.slice pi l.length ci):=hz.cell 0
            have e1:WE.cell? ⟨w.heap.size,1,none⟩=some (.slice pt q.length ct):=hz.cell 1
            have e2:WE.cell? ⟨w.heap.size,2,none⟩=some (.bool al):=hz.cell 2
            have e3:WE.cell? ⟨w.heap.size,3,none⟩=some (.pointer pa):=hz.cell 3
            have HFN:=Lib.hid hfin
            clear b0 b1 b2 b3 lb hfin hz
            rw [HOB.out]
            have hD:TestDone gR ts (.ok ⟨l,q,al,some ask⟩ (k10+1)) w (.returned (.agg (tCells (.slice pi l.length ci) (.slice pt q.length ct) al pa))) WE:=⟨HFN.out.2,_,_,_,rfl,HFN.out.1⟩
            exact bodyPost_ret (v:=.agg (tCells (.slice pi l.length ci) (.slice pt q.length ct) al pa)) (by simp [results,Tryz.results111,go_sem,e0,e1,e2,e3,tCells,Act.put]) rfl hD
          · have HOB:Hid (out = .bad k10 3):=Lib.hid (by rw [HA10.out,if_neg h0])
            clear h0
            go_wp2_with fail
            rw [HOB.out]
            exact ⟨rfl,HM11.out.low,rfl⟩
end
end Go.Proofs.YtagebkachdmnbaaGreatDoor.Prs
end
