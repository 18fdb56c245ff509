/- Part 19 of the proof: what is used of the texts LexB, LexK. -/
import Derived.Test.YtagebkachdmnbaaGreatDoorMB7
section
namespace Go.Proofs.YtagebkachdmnbaaGreatDoor.Lex
open Go.RowKit
def jumps (J:Nat->Act->World->Prop) (Q:Exit->Act->World->Prop):Exit->Act->World->Prop
  | .goto l,a,w=>J l a w
  | e,a,w=>Q e a w
def hubbed (P:Program) (c:Code) (h:Nat) (B:Nat->Prop) (J:Nat->Act->World->Prop) (Q:Exit->Act->World->Prop):Exit->Act->World->Prop
  | .goto l,a,w=>(l=h/\∃ n',B n' /\ J n' a w) \/ (l≠h/\∃ rest m,(∀ n',n' < m->B n')/\findLabel c l=some rest/\rest.wp P (Exit.jump h (fun a' w'=>∃ n',n' < m/\J n' a' w') Q) a w)
  | e,a,w=>Q e a w
section
variable {P : Program} {a : Act} {w : World} {Q : Exit → Act → World → Prop}
theorem wp_scope_many {c:Code} (M:Nat->Nat->Act->World->Prop)
    (first:c.wp P (jumps (fun l a w=>∃ n,M l n a w) Q) a w)
    (pass:∀ l n a w,M l n a w->∃ rest,findLabel c l=some rest/\rest.wp P (jumps (fun l' a' w'=>∃ n',n' < n/\M l' n' a' w') Q) a w):(Code.scope c).wp P Q a w:=by
  intro b k cs
  have hg:∀ l rest,findLabel c l=some rest->gotoIn l (.inScope c :: k)=some (.code rest :: .inScope c :: k):=fun l rest hf=>by simp [gotoIn,hf]
  have key:∀ n l a w,M l n a w->∃ rest,findLabel c l=some rest/\∃ e a' w',Q e a' w' /\ Arrives P (lone (b.at a (.code rest :: .inScope c :: k)) cs w) b k cs e a' w':=by
    intro n
    induction n using Nat.strongRecOn with
    | _ n ih =>
      intro l a w hM
      obtain ⟨rest,hf,hp⟩:=pass l n a w hM
      refine ⟨rest,hf,?_⟩
      obtain ⟨e,a₁,w₁,hq,harr⟩:=hp b (.inScope c :: k) cs
      cases e with
      | normal=>exact ⟨.normal,a₁,w₁,hq,Steps.trans harr (.one step_inScope)⟩
      | exit id=>exact ⟨.exit id,a₁,w₁,hq,fun k' hk=>harr k' (by simp [exitTo,hk])⟩
      | goto l' =>
        obtain ⟨n',hlt,hM'⟩:=hq
        obtain ⟨rest',hf',e₂,a₂,w₂,hq₂,harr₂⟩:=ih n' hlt l' a₁ w₁ hM'
        exact ⟨e₂,a₂,w₂,hq₂,.of_steps (harr _ (hg l' rest' hf')) harr₂⟩
      | ret=>exact ⟨_,a₁,w₁,hq,harr⟩
      | panic ch=>exact ⟨_,a₁,w₁,hq,harr⟩
      | outgrown=>exact ⟨_,a₁,w₁,hq,harr⟩
  obtain ⟨e,a₁,w₁,hq,harr⟩:=first b (.inScope c :: k) cs
  cases e with
  | normal=>exact ⟨.normal,a₁,w₁,hq,.head step_scope (Steps.trans harr (.one step_inScope))⟩
  | exit id=>exact ⟨.exit id,a₁,w₁,hq,fun k' hk => .head step_scope (harr k' (by simp [exitTo,hk]))⟩
  | goto l' =>
    obtain ⟨n,hM⟩:=hq
    obtain ⟨rest,hf,e₂,a₂,w₂,hq₂,harr₂⟩:=key n l' a₁ w₁ hM
    exact ⟨e₂,a₂,w₂,hq₂,.of_steps (.head step_scope (harr _ (hg l' rest hf))) harr₂⟩
  | ret=>exact ⟨_,a₁,w₁,hq,.of_steps (.one step_scope) harr⟩
  | panic ch=>exact ⟨_,a₁,w₁,hq,.of_steps (.one step_scope) harr⟩
  | outgrown=>exact ⟨_,a₁,w₁,hq,.of_steps (.one step_scope) harr⟩
theorem wp_skip_seq {c:Code} (h:c.wp P Q a w):(Code.skip.seq c).wp P Q a w:=wp_seq_k fun _ hK=>wp_skip (hK _ _ h)
theorem wp_scope_hub {c rest:Code} (h:Nat) (J:Nat->Act->World->Prop) (hf:findLabel c h=some (Code.skip.seq rest))
    (pass:∀ n a w,J n a w->rest.wp P (hubbed P c h (· < n) J Q) a w)
    (first:(∀ n a w,J n a w->rest.wp P (hubbed P c h (fun _=>True) J Q) a w)->c.wp P (hubbed P c h (fun _=>True) J Q) a w) :
    (Code.scope c).wp P Q a w:=by
  have first':=first fun n a w hJ=>wp_mono (pass n a w hJ) (by
    intro e a' w' hq
    cases e with
    | goto l =>
      rcases hq with ⟨e,n',_,hJ'⟩ | ⟨hne,r,m,_,hr,hw⟩
      · exact .inl ⟨e,n',trivial,hJ'⟩
      · exact .inr ⟨hne,r,m,fun _ _=>trivial,hr,hw⟩
    | _=>exact hq)
  have key:∀ (B:Nat->Prop) (n0:Nat->Prop),(∀ m,B m->n0 (2 * m+2))->(∀ m,(∀ n',n' < m->B n')->n0 (2 * m+1))->∀ e a' w',hubbed P c h B J Q e a' w' ->
      jumps (fun l a w=>∃ n,n0 n/\((l=h/\∃ m,n=2 * m+2/\J m a w) \/
        (l≠h/\∃ r,findLabel c l=some r/\∃ m,n=2 * m+1/\r.wp P (Exit.jump h (fun a' w'=>∃ n',n' < m/\J n' a' w') Q) a w))) Q e a' w':=by
    intro B n0 h1 h2 e a' w' hq
    cases e with
    | goto l =>
      rcases hq with ⟨e,n',hB,hJ'⟩ | ⟨hne,r,m,hB,hr,hw⟩
      · exact ⟨2 * n' + 2,h1 _ hB,.inl ⟨e,n',rfl,hJ'⟩⟩
      · exact ⟨2 * m+1,h2 _ hB,.inr ⟨hne,r,hr,m,rfl,hw⟩⟩
    | _=>exact hq
  refine wp_scope_many (fun l n a w=>(l=h/\∃ m,n=2 * m+2/\J m a w) \/
      (l≠h/\∃ r,findLabel c l=some r/\∃ m,n=2 * m+1/\r.wp P (Exit.jump h (fun a' w'=>∃ n',n' < m/\J n' a' w') Q) a w)) ?_ ?_
  · refine wp_mono (wp_mono first' (key (fun _=>True) (fun _=>True) (fun _ _=>trivial) (fun _ _=>trivial))) ?_
    intro e a' w' hq
    cases e with
    | goto l=>obtain ⟨n,_,hh⟩:=hq;exact ⟨n,hh⟩
    | _=>exact hq
  · rintro l n a w (⟨rfl,m,rfl,hJ⟩ | ⟨hne,r,hr,m,rfl,hw⟩)
    · refine ⟨_,hf,wp_mono (wp_skip_seq (pass m a w hJ)) (key (· < m) (· < 2 * m+2) (fun _ _=>by omega) (fun k hk=>?_))⟩
      rcases Nat.eq_zero_or_pos k with h0 | h0
      · omega
      · have:=hk (k - 1) (by omega);omega
    · refine ⟨r,hr,wp_mono hw ?_⟩
      intro e a' w' hq
      cases e with
      | goto l'=>obtain ⟨e',n',hlt,hJ'⟩:=hq;exact ⟨2 * n' + 2,by omega,.inl ⟨e',n',rfl,hJ'⟩⟩
      | _=>exact hq
theorem to_label {c rest:Code} {h l:Nat} {B:Nat->Prop} {J:Nat->Act->World->Prop} (m:Nat) (hB:∀ n',n' < m->B n') (hne:l≠h) (hr:findLabel c l=some (Code.skip.seq rest))
    (hw:rest.wp P (Exit.jump h (fun a' w'=>∃ n',n' < m/\J n' a' w') Q) a w):hubbed P c h B J Q (.goto l) a w:=.inr ⟨hne,_,m,hB,hr,wp_skip_seq hw⟩
theorem to_hub {h m n':Nat} {J:Nat->Act->World->Prop} (hlt:n' < m) (hJ:J n' a w):Exit.jump h (fun a' w'=>∃ n',n' < m/\J n' a' w') Q (.goto h) a w:=⟨rfl,n',hlt,hJ⟩
end
def slot (t:Array Value) (i:Nat):Value:=t.getD i undef
theorem spread (t:Array Value) (n:Nat) (h:t.size=n):t=((List.range n).map (slot t)).toArray:=by
  apply Array.ext
  · simp [h]
  · intro i h1 h2
    simp [slot,Array.getD,h1]
def tokCells (t:Tok):List Value:=[.int .u8 t.kind,.string ⟨t.text.toArray⟩,.int .u64 t.num,.int .i64 t.line,.int .i64 t.col]
def toks (ts:List Tok):List Value:=ts.flatMap tokCells
theorem toks_snoc (ts:List Tok) (t:Tok):toks (ts ++ [t])=toks ts ++ tokCells t:=by simp [toks]
structure Seats where
  R:Nat
  F:Nat
  H:Nat
  T:Nat
  I:Nat
  A:Nat
structure Mem (s:ByteArray) (w wr:World) (b:Seats) (k:Nat) (fc:Array Value) (v:Value) (acc:List Tok):Prop where
  hR:Sits wr b.R 139 #[.int .i64 0,.int .i64 0]
  hF:Sits wr b.F 274 fc
  hH:Sits wr b.H 274 (tellCells s k)
  hT:Sits wr b.T 9 #[.string s]
  hI:Sits wr b.I 3 #[.int .i64 (nextAt s k)]
  hA:Sits wr b.A 139 #[.int .i64 (lineAt s (nextAt s k)),.int .i64 (colAt s (nextAt s k))]
  nRA:b.R≠b.A
  nFH:b.F≠b.H
  own:wr.ownsRow w.heap.size 278 5 v acc.length (toks acc)
  lR:w.heap.size<=b.R
  lF:w.heap.size<=b.F
  lH:w.heap.size<=b.H
  lT:w.heap.size<=b.T
  lI:w.heap.size<=b.I
  lA:w.heap.size<=b.A
  low:Below w.heap.size w wr
theorem own_far {w:World} {base:Nat} {e t:TypeId} {size n g:Nat} {v:Value} {xs:List Value} {cs:Array Value} (h:w.ownsRow base e size v n xs) (hg:Sits w g t cs) (hne:e≠t):v.ownBlock≠some g:=by
  rcases h.2 with ⟨rfl,_⟩ | ⟨g',cap,cur,rfl,_,hh,_⟩
  · simp [Value.ownBlock]
  · intro he
    have:g' = g:=by simpa [Value.ownBlock] using he
    subst this
    exact Sits.differ (t:=e) hh hg hne rfl
theorem own_keep {w w':World} {base:Nat} {e:TypeId} {size n:Nat} {v:Value} {xs:List Value} {X:Nat->Prop} (h:w.ownsRow base e size v n xs) (k:Keeps X w w') (hn:∀ g,v.ownBlock=some g->¬ X g):w'.ownsRow base e size v n xs:=by
  refine ⟨h.1,?_⟩
  rcases h.2 with h2 | ⟨g,cap,cur,rfl,hb,hh,r⟩
  · exact .inl h2
  · exact .inr ⟨g,cap,cur,rfl,hb,(k.block g (lt_of_block hh) (hn g rfl)).trans hh,r⟩
section
variable {w w' : World} {g h : Nat} {t : TypeId} {cs : Array Value} {X : Nat → Prop} {c0 c1 c2 c3 c4 u0 u1 u2 u3 u4 : Value}
def set5 (w:World) (g:Nat) (u0 u1 u2 u3 u4:Value):World :=
  ((((w.setCell ⟨g,0,none⟩ u0).setCell ⟨g,1,none⟩ u1).setCell ⟨g,2,none⟩ u2).setCell ⟨g,3,none⟩ u3).setCell ⟨g,4,none⟩ u4
theorem keeps5 (w:World) (g:Nat) (u0 u1 u2 u3 u4:Value):Keeps (fun b=>b=g) w (set5 w g u0 u1 u2 u3 u4):=by
  unfold set5
  refine Keeps.put (Keeps.put (Keeps.put (Keeps.put (Keeps.put (Keeps.refl _ _) ?_ _) ?_ _) ?_ _) ?_ _) ?_ _ <;> exact .inl rfl
theorem Sits.set5 (h:Sits w g t #[c0,c1,c2,c3,c4]):Sits (set5 w g u0 u1 u2 u3 u4) g t #[u0,u1,u2,u3,u4] :=
  ((((h.put 0 u0).put 1 u1).put 2 u2).put 3 u3).put 4 u4
theorem Sits.all5 (h:Sits w g t #[c0,c1,c2,c3,c4]) :
    w.cell? ⟨g,0,none⟩=some c0/\w.cell? ⟨g,1,none⟩=some c1/\w.cell? ⟨g,2,none⟩=some c2/\w.cell? ⟨g,3,none⟩=some c3/\w.cell? ⟨g,4,none⟩=some c4 /\
    w.frozen? ⟨g,0,none⟩=false/\w.frozen? ⟨g,1,none⟩=false/\w.frozen? ⟨g,2,none⟩=false/\w.frozen? ⟨g,3,none⟩=false/\w.frozen? ⟨g,4,none⟩=false :=
  ⟨h.cell 0,h.cell 1,h.cell 2,h.cell 3,h.cell 4,h.free 0,h.free 1,h.free 2,h.free 3,h.free 4⟩
theorem Sits.allTold {s:ByteArray} {k:Nat} (h:Sits w g t (tellCells s k)) :
    w.cell? ⟨g,0,none⟩=some (.int .u8 (bAt s k))/\w.cell? ⟨g,1,none⟩=some (.bool (endAt s k))/\w.cell? ⟨g,2,none⟩=some (.int .i64 k)/\w.cell? ⟨g,3,none⟩=some (.int .i64 (lineAt s k))/\w.cell? ⟨g,4,none⟩=some (.int .i64 (colAt s k)) /\
    w.frozen? ⟨g,0,none⟩=false/\w.frozen? ⟨g,1,none⟩=false/\w.frozen? ⟨g,2,none⟩=false/\w.frozen? ⟨g,3,none⟩=false/\w.frozen? ⟨g,4,none⟩=false:=Sits.all5 h
theorem Sits.all2 (h:Sits w g t #[c0,c1]):w.cell? ⟨g,0,none⟩=some c0/\w.cell? ⟨g,1,none⟩=some c1/\w.frozen? ⟨g,0,none⟩=false/\w.frozen? ⟨g,1,none⟩=false :=
  ⟨h.cell 0,h.cell 1,h.free 0,h.free 1⟩
end
section
variable {s : ByteArray} {w wr w2 : World} {b : Seats} {k : Nat} {fc : Array Value} {v c0 c1 c2 c3 c4 : Value} {acc : List Tok}
theorem Mem.apart (m:Mem s w wr b k fc v acc):b.F≠b.R/\b.F≠b.T/\b.F≠b.I/\b.F≠b.A/\b.H≠b.R/\b.H≠b.T/\b.H≠b.I/\b.H≠b.A/\b.R≠b.I/\b.T≠b.I/\b.T≠b.A/\b.I≠b.A/\b.R≠b.T :=
  ⟨m.hF.differ m.hR (by decide),m.hF.differ m.hT (by decide),m.hF.differ m.hI (by decide),m.hF.differ m.hA (by decide),m.hH.differ m.hR (by decide),m.hH.differ m.hT (by decide),m.hH.differ m.hI (by decide),m.hH.differ m.hA (by decide),
    m.hR.differ m.hI (by decide),m.hT.differ m.hI (by decide),m.hT.differ m.hA (by decide),m.hI.differ m.hA (by decide),m.hR.differ m.hT (by decide)⟩
theorem Mem.first (m:Mem s w wr b k #[c0,c1,c2,c3,c4] v acc) :
    Mem s w (set5 wr b.F (.int .u8 (bAt s k)) (.bool (endAt s k)) (.int .i64 k) (.int .i64 (lineAt s k)) (.int .i64 (colAt s k))) b k (tellCells s k) v acc:=by
  obtain ⟨a1,a2,a3,a4,_⟩:=m.apart
  have K:=keeps5 wr b.F (.int .u8 (bAt s k)) (.bool (endAt s k)) (.int .i64 k) (.int .i64 (lineAt s k)) (.int .i64 (colAt s k))
  exact { m with
    hR:=m.hR.keep K (Ne.symm a1),hF:=m.hF.set5,hH:=m.hH.keep K (Ne.symm m.nFH),hT:=m.hT.keep K (Ne.symm a2),hI:=m.hI.keep K (Ne.symm a3),hA:=m.hA.keep K (Ne.symm a4)
    own:=own_keep m.own K (fun g hg e=>own_far m.own m.hF (by decide) (by rw [hg,e]))
    low:=behind m.low K m.low.size (fun _ e=>by rw [e];exact m.lF) }
theorem Mem.told (m:Mem s w wr b k fc v acc) {e:Ending} (h:tellMade s (nextAt s k) b.T b.I b.A wr w2 e) :
    Sits w2 b.H 274 (tellCells s k) /\
    Mem s w (set5 w2 b.H (.int .u8 (bAt s (nextAt s k))) (.bool (endAt s (nextAt s k))) (.int .i64 (nextAt s k:Nat)) (.int .i64 (lineAt s (nextAt s k))) (.int .i64 (colAt s (nextAt s k)))) b (nextAt s k) fc v acc:=by
  obtain ⟨a1,a2,a3,a4,a5,a6,a7,a8,a9,a10,a11,a12,a13⟩:=m.apart
  obtain ⟨_,hT,hI,hA,K0⟩:=h
  have hH:=m.hH.keep K0 (by rintro (h | h) <;> contradiction)
  refine ⟨hH,?_⟩
  have K:=keeps5 w2 b.H (.int .u8 (bAt s (nextAt s k))) (.bool (endAt s (nextAt s k))) (.int .i64 (nextAt s k:Nat)) (.int .i64 (lineAt s (nextAt s k))) (.int .i64 (colAt s (nextAt s k)))
  have hR:=m.hR.keep K0 (by rintro (h | h);exact a9 h;exact m.nRA h)
  have hF:=m.hF.keep K0 (by rintro (h | h) <;> contradiction)
  have own2:=own_keep m.own K0 (fun g hg e=>by
    rcases e with e | e
    · exact own_far m.own m.hI (by decide) (by rw [hg,e])
    · exact own_far m.own m.hA (by decide) (by rw [hg,e]))
  have low2:=behind m.low K0 m.low.size (fun g e=>by rcases e with e | e;rw [e];exact m.lI;rw [e];exact m.lA)
  exact { m with
    hR:=hR.keep K (Ne.symm a5),hF:=hF.keep K m.nFH,hH:=hH.set5,hT:=hT.keep K (Ne.symm a6),hI:=hI.keep K (Ne.symm a7),hA:=hA.keep K (Ne.symm a8)
    own:=own_keep own2 K (fun g hg e=>own_far own2 hH (by decide) (by rw [hg,e]))
    low:=behind low2 K low2.size (fun _ e=>by rw [e];exact m.lH) }
theorem nextAt_le (s:ByteArray) (k:Nat) (hk:k<=s.size):nextAt s k<=s.size:=by unfold nextAt;split <;> omega
theorem nextAt_in (s:ByteArray) (k:Nat) (hk:k<s.size):nextAt s k=k+1:=by unfold nextAt;rw [if_pos hk]
theorem Mem.grew (m:Mem s w wr b k fc v acc) {w3:World} {v':Value} {o:Obj} (t:Tok) {c:List Value} (hc:c=tokCells t) (h:w3.ownsRow w.heap.size 278 5 v' (acc.length+1) (toks acc ++ c)) (hg:(wr.alloc o).grownBy w3 v.ownBlock) :
    Mem s w w3 b k fc v' (acc ++ [t]):=by
  subst hc
  exact {
    hR:=(m.hR.alloc o).grown hg (own_far m.own m.hR (by decide))
    hF:=(m.hF.alloc o).grown hg (own_far m.own m.hF (by decide))
    hH:=(m.hH.alloc o).grown hg (own_far m.own m.hH (by decide))
    hT:=(m.hT.alloc o).grown hg (own_far m.own m.hT (by decide))
    hI:=(m.hI.alloc o).grown hg (own_far m.own m.hI (by decide))
    hA:=(m.hA.alloc o).grown hg (own_far m.own m.hA (by decide))
    nRA:=m.nRA,nFH:=m.nFH
    own:=by rw [List.length_append,toks_snoc];exact h
    lR:=m.lR,lF:=m.lF,lH:=m.lH,lT:=m.lT,lI:=m.lI,lA:=m.lA
    low:=(m.low.alloc m.low.size o).grown hg (by have:=m.low.size;simp;omega) (fun g hg=>(m.own.lt g hg).1) }
theorem Mem.grewDrawn (m:Mem s w wr b k fc v acc) {w3:World} {v':Value} {o:Obj} (t:Tok) {c:List Value} (hc:c=tokCells t) (h:w3.ownsRow w.heap.size 278 5 v' (acc.length+1) (toks acc ++ c)) (hg:((wr.alloc o).drew).grownBy w3 v.ownBlock) :
    Mem s w w3 b k fc v' (acc ++ [t]):=m.grew t hc h (o:=o) ⟨hg.os,hg.tape,hg.output,hg.size,hg.block⟩
theorem cut_eq (s:ByteArray) (k j:Nat):s.extract k j=⟨((s.data.toList.drop k).take (j - k)).toArray⟩:=by
  apply ByteArray.ext
  rw [ByteArray.data_extract]
  apply Array.toList_inj.1
  rw [Array.toList_extract]
theorem piece_step {l:List UInt8} {k d n v:Nat} {acc:List Tok} (hX:lex l (1,1)=(lex (l.drop k) (pl l k)).more acc) (hP:one (l.drop k) = .piece d n v) {j:Nat} (hj:j=k+n) :
    lex l (1,1)=(lex (l.drop j) (pl l j)).more (acc ++ [⟨d,(l.drop k).take (j - k),v,(pl l k).1,(pl l k).2⟩]):=by
  subst hj
  rw [hX,lex_on_piece hP,more_more,Nat.add_sub_cancel_left]
theorem eq61 (s:ByteArray) (k:Nat):(bAt s k == 61)=(byt s k == 61):=bAt_beq s k 61 (by omega)
theorem eq61_lt {s:ByteArray} {k:Nat} (h:(bAt s k == 61)=true):k<s.size:=by
  rcases Nat.lt_or_ge k s.size with h' | h'
  · exact h'
  · rw [bAt_out s k h'] at h;cases h
def numAt (s:ByteArray) (k j:Nat):Nat:=num ((s.data.toList.drop k).take (j - k))
theorem numAt_none (s:ByteArray) (k:Nat):numAt s k k=0:=by unfold numAt;rw [Nat.sub_self];rfl
theorem numAt_next (s:ByteArray) (k j:Nat) (hk:k<=j) (hj:j<s.size) (h0:48<=bAt s j):(numAt s k (j+1):Int)=10 * numAt s k j+(bAt s j - 48):=by
  unfold numAt
  rw [take_snoc _ k j hk hj,num_snoc]
  have:bAt s j=((s.data.toList.getD j 0).toNat:Int):=rfl
  omega
theorem digit_bd {s:ByteArray} {j:Nat} (h:isD (byt s j)=true):48<=bAt s j/\bAt s j<=57:=by
  unfold isD at h
  simp only [Bool.and_eq_true,decide_eq_true_eq] at h
  unfold bAt;omega
theorem digit_lt {s:ByteArray} {j:Nat} (h:isD (byt s j)=true):j<s.size:=by
  rcases Nat.lt_or_ge j s.size with h' | h'
  · exact h'
  · rw [byt_out s j h'] at h;cases h
theorem ld_lt {s:ByteArray} {j:Nat} (h:isLD (byt s j)=true):j<s.size:=by
  rcases Nat.lt_or_ge j s.size with h' | h'
  · exact h'
  · rw [byt_out s j h'] at h;cases h
theorem Mem.begin {s:ByteArray} {w w1 w2:World} {T I A:Nat} {x0 x1 c0 c1 c2 c3 c4:Value} {e:Ending}
    (lT:w.heap.size+1+1<=T) (lI:w.heap.size+1+1<=I) (lA:w.heap.size+1+1<=A)
    (hlow:Below ((w.alloc (.cells #[x0,x1] 139)).alloc (.cells #[c0,c1,c2,c3,c4] 274)).heap.size ((w.alloc (.cells #[x0,x1] 139)).alloc (.cells #[c0,c1,c2,c3,c4] 274)) w1)
    (h:tellMade s 0 T I A w1 w2 e) (hx0:x0 = .int .i64 0) (hx1:x1 = .int .i64 0) :
    Mem s w (w2.alloc (.cells (tellCells s 0) 274)) ⟨w.heap.size,w.heap.size+1,w2.heap.size,T,I,A⟩ 0 #[c0,c1,c2,c3,c4] (.slice none 0 0) []:=by
  subst hx0;subst hx1
  obtain ⟨_,hT,hI,hA,K⟩:=h
  have z:((w.alloc (.cells #[.int .i64 0,.int .i64 0] 139)).alloc (.cells #[c0,c1,c2,c3,c4] 274)).heap.size=w.heap.size+1+1:=by simp
  have z1:=hlow.size
  have z2:=K.size
  rw [z] at z1
  have hR:Sits w1 w.heap.size 139 #[.int .i64 0,.int .i64 0]:=((Sits.new w _ _).alloc _).below hlow (by rw [z];omega)
  have hF:Sits w1 (w.heap.size+1) 274 #[c0,c1,c2,c3,c4]:=(Sits.made (by simp) _ _).below hlow (by rw [z];omega)
  exact {
    hR:=(hR.keep K (by rintro (h | h) <;> omega)).alloc _
    hF:=(hF.keep K (by rintro (h | h) <;> omega)).alloc _
    hH:=Sits.new _ _ _
    hT:=hT.alloc _
    hI:=hI.alloc _
    hA:=hA.alloc _
    nRA:=by show w.heap.size≠A;omega
    nFH:=by show w.heap.size+1≠w2.heap.size;omega
    own:=World.ownsRow_nil _ _ _ _
    lR:=Nat.le_refl _
    lF:=by show _<=w.heap.size+1;omega
    lH:=by show _<=w2.heap.size;omega
    lT:=by show _<=T;omega
    lI:=by show _<=I;omega
    lA:=by show _<=A;omega
    low:=(behind ((((Below.refl _ w).alloc (Nat.le_refl _) _).alloc (by simp) _).trans (hlow.mono (by rw [z];omega))) K (by omega) (by rintro b (h | h) <;> omega)).alloc (by omega) _ }
end
end Go.Proofs.YtagebkachdmnbaaGreatDoor.Lex
end
section
namespace Go.Proofs.YtagebkachdmnbaaGreatDoor.Lex
def Emits (t:Tok):Prop:=∃ l,one l = .piece t.kind t.text.length t.num/\l.take t.text.length=t.text
theorem blank_is {c:UInt8} (h:isB c=true):c=32 \/ c=9 \/ c=10:=by
  unfold isB at h
  simp only [Bool.or_eq_true,beq_iff_eq] at h
  rcases h with (h | h) | h
  · exact .inl h
  · exact .inr (.inl h)
  · exact .inr (.inr h)
theorem one_cons (c:UInt8) (r:List UInt8):one (c :: r) =
    if isB c then .skip 1
    else if c == 35 then .skip ((c :: r).takeWhile isR).length
    else if isD c then
      if num ((c :: r).takeWhile isD)<top then .piece 1 ((c :: r).takeWhile isD).length (num ((c :: r).takeWhile isD)) else .bad 4
    else if isL c then .piece 2 ((c :: r).takeWhile isLD).length 0
    else if isS c then
      if grows c && r.head? == some 61 then .piece 3 2 0 else .piece 3 1 0
    else .bad 3:=rfl
theorem lexF_emits:∀ (f:Nat) (l:List UInt8) (p:Nat × Nat) (ts:List Tok),l.length<f->lexF f l p = .ok ts->∃ body e,ts=body ++ [e]/\e.kind=0/\e.text=[]/\e.num=0/\∀ t ∈ body,Emits t:=by
  intro f
  induction f with
  | zero=>intro l p ts h;omega
  | succ f ih =>
    intro l p ts hl h
    rw [lexF] at h
    cases ho:one l with
    | fin=>rw [ho] at h;cases h;exact ⟨[],_,rfl,rfl,rfl,rfl,by simp⟩
    | bad e=>rw [ho] at h;cases h
    | skip n =>
      rw [ho] at h
      cases l with
      | nil=>cases ho
      | cons a m =>
        have:=one_len a m;rw [ho] at this;simp only [Step.len] at this
        exact ih _ _ _ (by simp only [List.length_drop,List.length_cons] at *;omega) h
    | piece k n v =>
      rw [ho] at h
      simp only at h
      cases l with
      | nil=>cases ho
      | cons a m =>
        have hn:=one_len a m;rw [ho] at hn;simp only [Step.len] at hn
        cases hx:lexF f ((a :: m).drop n) (adv p ((a :: m).take n)) with
        | err e x y=>rw [hx] at h;cases h
        | ok ts' =>
          rw [hx] at h
          obtain ⟨body,e,rfl,e1,e2,e3,hb⟩:=ih _ _ _ (by simp only [List.length_drop,List.length_cons] at *;omega) hx
          cases h
          have hlen:((a :: m).take n).length=n:=by simp only [List.length_take];omega
          refine ⟨⟨k,(a :: m).take n,v,p.1,p.2⟩ :: body,e,rfl,e1,e2,e3,?_⟩
          intro t ht
          rcases List.mem_cons.1 ht with rfl | ht
          · exact ⟨a :: m,by rw [hlen];exact ho,by rw [hlen]⟩
          · exact hb t ht
theorem lexF_count:∀ (f:Nat) (l:List UInt8) (p:Nat × Nat) (ts:List Tok),lexF f l p = .ok ts->ts.length<=l.length+1:=by
  intro f
  induction f with
  | zero=>intro l p ts h;cases h;simp
  | succ f ih =>
    intro l p ts h
    rw [lexF] at h
    cases ho:one l with
    | fin=>rw [ho] at h;cases h;simp
    | bad e=>rw [ho] at h;cases h
    | skip n =>
      rw [ho] at h
      have:=ih _ _ _ h
      rw [List.length_drop] at this;omega
    | piece k n v =>
      rw [ho] at h
      simp only at h
      cases l with
      | nil=>cases ho
      | cons a m =>
        have hn:=one_len a m;rw [ho] at hn;simp only [Step.len] at hn
        cases hx:lexF f ((a :: m).drop n) (adv p ((a :: m).take n)) with
        | err e x y=>rw [hx] at h;cases h
        | ok ts' =>
          rw [hx] at h
          have:=ih _ _ _ hx
          cases h
          rw [List.length_drop] at this
          simp only [List.singleton_append,List.length_cons] at *
          omega
end Go.Proofs.YtagebkachdmnbaaGreatDoor.Lex
end
